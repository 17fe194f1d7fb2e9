/- The walks of spec.l3Copy, spec.l3Without, spec.WithoutEntry. -/
import Derived.Test.YtblhcnafoejahaaSpecCopy
import Derived.Test.YtblhcnafoejahaaSpecNodeFault
import Derived.Test.YtblhcnafoejahaaImplWithout
namespace Go.Proofs.Ytblhcnafoejahaa
open Go.RowKit

/-- A row that holds the entries qs, all from block base on. -/
structure Rows4 (w : World) (base n : Nat) (qs : List EV) (v : Value) : Prop where
  S : w.ownsRow base 67 4 v n (qs.flatMap EV.cells)
  R : ReadE w base v qs
theorem Copied.rows {w wr : World} {k : Nat} {qs : List EV} {v : Value} (h : Copied w wr k qs v) : Rows4 wr w.heap.size k qs v := ⟨h.S, h.R⟩
theorem Rows4.far {w : World} {base n : Nat} {qs : List EV} {v : Value} (h : Rows4 w base n qs v) {a : Addr} (ha : a.block < base) (u : Value) : Rows4 (w.setCell a u) base n qs v := by
  refine ⟨ownsRow_far2 h.S ha u, h.R.far (fun q hq => ?_) u⟩
  obtain ⟨g1, g2, a1, a2, a3, a4, _⟩ := h.R q hq
  rw [a1, a2]
  exact ⟨by show g1 ≠ _; omega, by show g2 ≠ _; omega⟩
theorem Rows4.entries {w : World} {base n : Nat} {qs : List EV} {v : Value} (h : Rows4 w base n qs v) : ∃ A c, v = .slice A n c ∧ Entries w A n qs := by
  refine entries_of_owns h.S fun q hq => ?_
  obtain ⟨g1, g2, a1, a2, a3, a4, a5, a6, a7, a8, a9, a10, i1, i2⟩ := h.R q hq
  exact ⟨i1, i2, a9, a10⟩

set_option maxHeartbeats 1600000 in
theorem l3Copy_any (lv ns rt : Int) (b n c dd : Nat) (A : Option Addr) (ps : List EV) (w : World) (hb : b < w.heap.size) (k0 : w.cell? ⟨b, 0, none⟩ = some (.int .i64 lv)) (k1 : w.cell? ⟨b, 1, none⟩ = some (.int .i64 ns)) (k2 : w.cell? ⟨b, 2, none⟩ = some (.int .i64 rt)) (k3 : w.cell? ⟨b, 3, none⟩ = some (.slice A n c))
    (hp : Entries w A n ps) (hn : n ≤ 6) (hd : 0 < dd) (hd3 : dd ≤ 3) (hl : LensE dd (ps.map EV.val)) :
    Calls Try.prog 46 #[.pointer (some ⟨b, 0, none⟩)] w fun e w' => ∃ A' c' qs, e = .returned (.agg #[.int .i64 lv, .int .i64 ns, .int .i64 rt, .slice A' n c']) ∧ Rows4 w' (w.heap.size + 1 + 1) n qs (.slice A' n c') ∧ qs.map EV.val = ps.map EV.val ∧ Below w.heap.size w w' := by
  have HP := Lib.hid hp
  have HE := Lib.hid hl
  clear hp hl
  have B := Lib.hid (below_alloc w (.cells #[.int .i64 0, .int .i64 0, .int .i64 0, .slice none 0 0] 29))
  have e0 : (w.alloc (.cells #[.int .i64 0, .int .i64 0, .int .i64 0, .slice none 0 0] 29)).cell? ⟨b, 0, none⟩ = some (.int .i64 lv) := (B.out.cell (p := ⟨b, 0, none⟩) hb).trans k0
  have e1 : (w.alloc (.cells #[.int .i64 0, .int .i64 0, .int .i64 0, .slice none 0 0] 29)).cell? ⟨b, 1, none⟩ = some (.int .i64 ns) := (B.out.cell (p := ⟨b, 1, none⟩) hb).trans k1
  have e2 : (w.alloc (.cells #[.int .i64 0, .int .i64 0, .int .i64 0, .slice none 0 0] 29)).cell? ⟨b, 2, none⟩ = some (.int .i64 rt) := (B.out.cell (p := ⟨b, 2, none⟩) hb).trans k2
  have e3 : (w.alloc (.cells #[.int .i64 0, .int .i64 0, .int .i64 0, .slice none 0 0] 29)).cell? ⟨b, 3, none⟩ = some (.slice A n c) := (B.out.cell (p := ⟨b, 3, none⟩) hb).trans k3
  replace B := Lib.hid (B.out.alloc B.out.size (.cells #[.int .i64 lv, .int .i64 ns, .int .i64 rt, .slice A n c] 29))
  have g3 : ((w.alloc (.cells #[.int .i64 0, .int .i64 0, .int .i64 0, .slice none 0 0] 29)).alloc (.cells #[.int .i64 lv, .int .i64 ns, .int .i64 rt, .slice A n c] 29)).cell? ⟨b, 3, none⟩ = some (.slice A n c) := (B.out.cell (p := ⟨b, 3, none⟩) hb).trans k3
  clear k0 k1 k2 k3
  have L_r := Lib.hid ((Lies.new w 29 #[.int .i64 0, .int .i64 0, .int .i64 0, .slice none 0 0]).alloc (.cells #[.int .i64 lv, .int .i64 ns, .int .i64 rt, .slice A n c] 29))
  have L_o := Lib.hid (Lies.new (w.alloc (.cells #[.int .i64 0, .int .i64 0, .int .i64 0, .slice none 0 0] 29)) 29 #[.int .i64 lv, .int .i64 ns, .int .i64 rt, .slice A n c])
  simp only [World.size_alloc] at L_o
  go_enter Try.func46, Try.ntmps46
  go_wp2_with fail
  refine (l3Entries_any n c dd A ps _ (HP.out.kept B.out) hn hd hd3 HE.out).mono ?_
  rintro e W1 ⟨v, qs, rfl, hC, vq⟩
  have hcb := hC.b
  have hrow := hC.rows
  simp only [World.size_alloc] at hrow
  replace L_r := Lib.hid (L_r.out.kept hcb L_r.out.inside)
  replace L_o := Lib.hid (L_o.out.kept hcb L_o.out.inside)
  replace B := Lib.hid (B.out.trans (hcb.mono B.out.size))
  obtain ⟨A', c', rfl, _⟩ := hrow.entries
  have RW := Lib.hid hrow
  have VQ := Lib.hid vq
  clear hC hcb hrow vq e0 e1 e2 e3 g3
  have y0 : W1.cell? ⟨w.heap.size + 1, 0, none⟩ = some (.int .i64 lv) := L_o.out.cell 0
  have u0 : W1.frozen? ⟨w.heap.size + 1, 0, none⟩ = false := L_o.out.thawed 0
  have y1 : W1.cell? ⟨w.heap.size + 1, 1, none⟩ = some (.int .i64 ns) := L_o.out.cell 1
  have u1 : W1.frozen? ⟨w.heap.size + 1, 1, none⟩ = false := L_o.out.thawed 1
  have y2 : W1.cell? ⟨w.heap.size + 1, 2, none⟩ = some (.int .i64 rt) := L_o.out.cell 2
  have u2 : W1.frozen? ⟨w.heap.size + 1, 2, none⟩ = false := L_o.out.thawed 2
  have y3 : W1.cell? ⟨w.heap.size + 1, 3, none⟩ = some (.slice A n c) := L_o.out.cell 3
  have u3 : W1.frozen? ⟨w.heap.size + 1, 3, none⟩ = false := L_o.out.thawed 3
  have z0 : W1.cell? ⟨w.heap.size, 0, none⟩ = some (.int .i64 0) := L_r.out.cell 0
  have f0 : W1.frozen? ⟨w.heap.size, 0, none⟩ = false := L_r.out.thawed 0
  have z1 : W1.cell? ⟨w.heap.size, 1, none⟩ = some (.int .i64 0) := L_r.out.cell 1
  have f1 : W1.frozen? ⟨w.heap.size, 1, none⟩ = false := L_r.out.thawed 1
  have z2 : W1.cell? ⟨w.heap.size, 2, none⟩ = some (.int .i64 0) := L_r.out.cell 2
  have f2 : W1.frozen? ⟨w.heap.size, 2, none⟩ = false := L_r.out.thawed 2
  have z3 : W1.cell? ⟨w.heap.size, 3, none⟩ = some (.slice none 0 0) := L_r.out.cell 3
  have f3 : W1.frozen? ⟨w.heap.size, 3, none⟩ = false := L_r.out.thawed 3
  go_wp2
  refine bodyPost_ret (v := .agg #[.int .i64 lv, .int .i64 ns, .int .i64 rt, .slice A' n c']) (by simp [results, Try.results46, go_sem, z0, z1, z2, z3]) rfl ⟨A', c', qs, rfl, ?_, VQ.out, ?_⟩
  · with_reducible (repeat (first | exact RW.out | refine Rows4.far ?_ ?_ _))
    all_goals (first | (show w.heap.size + 1 < _; omega) | (show w.heap.size < _; omega))
  · with_reducible (repeat (first | exact B.out | refine Below.setCell ?_ ?_ _))
    all_goals (first | (show w.heap.size ≤ w.heap.size + 1; omega) | (show w.heap.size ≤ w.heap.size; omega))

/-- What stays of the entries. -/
def keepE (r : Int) (ps : List EV) : List EV := ps.filter fun p => p.ref != r
theorem keepE_take_no {r : Int} {ps : List EV} {k : Nat} {p : EV} (h : ps[k]? = some p) (hr : p.ref = r) : keepE r (ps.take (k + 1)) = keepE r (ps.take k) := by
  unfold keepE; rw [List.take_add_one, h, List.filter_append]; simp [hr]
theorem keepE_take_yes {r : Int} {ps : List EV} {k : Nat} {p : EV} (h : ps[k]? = some p) (hr : p.ref ≠ r) : keepE r (ps.take (k + 1)) = keepE r (ps.take k) ++ [p] := by
  unfold keepE; rw [List.take_add_one, h, List.filter_append]; simp [hr]
theorem keepE_len (r : Int) (ps : List EV) : (keepE r ps).length ≤ ps.length := List.length_filter_le _ _
theorem keepE_mem {r : Int} {ps : List EV} {p : EV} (h : p ∈ keepE r ps) : p ∈ ps := (List.mem_filter.1 h).1

set_option maxRecDepth 100000 in
set_option maxHeartbeats 3200000 in
theorem l3Without_any (r : Int) (n c : Nat) (A : Option Addr) (ps : List EV) (w : World) (hp : Entries w A n ps) (hn : n ≤ 6) :
    Calls Try.prog 47 #[.slice A n c, .int .i64 r] w fun e w' => ∃ A' c', e = .returned (.slice A' (keepE r ps).length c') ∧ Entries w' A' (keepE r ps).length (keepE r ps) ∧ (0 < (keepE r ps).length → ∃ g, A' = some ⟨g, 0, none⟩ ∧ w.heap.size ≤ g) ∧ Below w.heap.size w w' := by
  have HP := Lib.hid hp
  have HL : Hid (ps.length = n) := hp.1
  clear hp
  obtain ⟨i0, hi0, hz0, hz1, hz2⟩ := info_entry4
  have IP := Lib.hid (And.intro hi0 (And.intro hz0 (And.intro hz1 hz2)))
  clear hi0 hz0 hz1 hz2
  have ST : Hid ((w.alloc (.cells #[] 67)).ownsRow w.heap.size 67 4 (.slice (some ⟨w.heap.size, 0, none⟩) 0 0) 0 []) := ⟨rfl, Or.inr ⟨w.heap.size, 0, #[], rfl, Nat.le_refl _, heap_alloc_new w _, Nat.le_refl _, Nat.zero_le _, rfl, rfl⟩⟩
  go_enter Try.func47, Try.ntmps47
  go_wp2
  go_loopw [5, 6] (fun vv i wr => ∃ (k m : Nat) (v : Value), k ≤ n ∧ i = .int .i64 k ∧ v = vv ∧ m ≤ k ∧ Hid (m = (keepE r (ps.take k)).length) ∧ Hid (Below w.heap.size w wr) ∧ Hid (wr.ownsRow w.heap.size 67 4 v m ((keepE r (ps.take k)).flatMap EV.cells))) (fun _ i _ => n - (intOf i).toNat)
  case atStart => exact ⟨0, 0, _, Nat.zero_le _, rfl, rfl, Nat.le_refl _, rfl, below_alloc _ _, ST⟩
  case round =>
    obtain ⟨k, m, v, hk, rfl, rfl, hmk, hM, hB, hS⟩ := hrel
    clear ST
    by_cases hlt : k < n
    · obtain ⟨b, o, A1, n1, c1, A2, n2, c2, ref, nsn, x1, x2, rfl, hb, d0, d1, d2, d3, hx, i1, i2, m1, m2⟩ := HP.out.cellAt hlt
      have e0 : wr.cell? ⟨b, o + k * 4, none⟩ = some (.slice A1 n1 c1) := (hB.out.cell (p := ⟨b, o + k * 4, none⟩) hb).trans d0
      have e1 : wr.cell? ⟨b, o + k * 4 + 1, none⟩ = some (.slice A2 n2 c2) := (hB.out.cell (p := ⟨b, o + k * 4 + 1, none⟩) hb).trans d1
      have e2 : wr.cell? ⟨b, o + k * 4 + 2, none⟩ = some (.int .i64 ref) := (hB.out.cell (p := ⟨b, o + k * 4 + 2, none⟩) hb).trans d2
      have e3 : wr.cell? ⟨b, o + k * 4 + 3, none⟩ = some (.int .i64 nsn) := (hB.out.cell (p := ⟨b, o + k * 4 + 3, none⟩) hb).trans d3
      clear d0 d1 d2 d3 i1 i2
      by_cases hr : ref = r
      · have hr1 : (ref != r) = false := by simp [hr]
        have hS' : Hid (wr.ownsRow w.heap.size 67 4 v m ((keepE r (ps.take (k + 1))).flatMap EV.cells)) := by show World.ownsRow _ _ _ _ _ _ _; rw [keepE_take_no hx.out hr]; exact hS.out
        have hM' : Hid (m = (keepE r (ps.take (k + 1))).length) := by show m = _; rw [keepE_take_no hx.out hr]; exact hM.out
        clear hS hM hr hx
        go_wp2
        go_roundw
        case rel => exact ⟨k + 1, m, _, by omega, by go_num, rfl, by omega, hM', hB, hS'⟩
        case measure => simp [intOf]; omega
      · have hr1 : (ref != r) = true := by simpa using hr
        have KT := Lib.hid (keepE_take_yes hx.out hr)
        have bsz := hB.out.size
        have S2 := Lib.hid (hS.out.alloc (.cells #[.slice A1 n1 c1, .slice A2 n2 c2, .int .i64 ref, .int .i64 nsn] 67))
        have B2 := Lib.hid (hB.out.alloc hB.out.size (.cells #[.slice A1 n1 c1, .slice A2 n2 c2, .int .i64 ref, .int .i64 nsn] 67))
        have vb := Lib.hid (ownsRow_block2 hS.out)
        have NEWS := Lib.hid (World.news_of_block (Lies.new wr 67 #[.slice A1 n1 c1, .slice A2 n2 c2, .int .i64 ref, .int .i64 nsn]))
        clear hr hx hS hB
        go_wp2_with (with_reducible refine wpList_append_lies _ rfl (.tmp 21) (.tmp 26) 27 rfl w.heap.size 67 i0 (.agg #[.slice none 0 0, .slice none 0 0, .int .i64 0, .int .i64 0]) 4 64 Try.underlying27 IP.out.1 IP.out.2.1 IP.out.2.2.1 IP.out.2.2.2 rfl (by omega) v m ((keepE r (ps.take k)).flatMap EV.cells) rfl S2.out ⟨wr.heap.size, 0, none⟩ 1 1 [.slice A1 n1 c1, .slice A2 n2 c2, .int .i64 ref, .int .i64 nsn] rfl rfl NEWS.out ?q2 (by omega) ?q3 ?q4 ?q5 (wr.heap.size + 1) ?q6 ?_)
        case q2 => simp [Value.oneCell']
        case q3 => unfold maxLen; omega
        case q4 => omega
        case q5 => (try simp only [World.size_alloc]); omega
        intro gg cap2 w' ho hg hat hlt2
        have hS' : Hid (w'.ownsRow w.heap.size 67 4 (.slice (some ⟨gg, 0, none⟩) (m + 1) cap2) (m + 1) ((keepE r (ps.take (k + 1))).flatMap EV.cells)) := by
          show World.ownsRow _ _ _ _ _ _ _
          rw [KT.out, List.flatMap_append]; simpa [EV.cells] using ho
        have hM' : Hid (m + 1 = (keepE r (ps.take (k + 1))).length) := by show m + 1 = _; rw [KT.out, List.length_append, ← hM.out]; rfl
        have hB' := Lib.hid (below_grown2 B2.out hg (fun q e => (vb.out q e).1) B2.out.size)
        clear ho hg hat hlt2 S2 B2 NEWS hM KT e0 e1 e2 e3
        go_wp2
        go_roundw
        case rel => exact ⟨k + 1, m + 1, _, by omega, by go_num, rfl, by omega, hM', hB', hS'⟩
        case measure => simp [intOf]; omega
    · have hkn : k = n := by omega
      have ht : ps.take k = ps := List.take_of_length_le (by rw [HL.out]; omega)
      have hM2 := hM.out
      have hS2 := hS.out
      rw [ht] at hM2 hS2
      subst hM2
      have hfm := Lib.hid hS2
      obtain ⟨A', c', rfl, hent⟩ := entries_of_owns hS2 (fun q hq => (HP.out.2.2 q (keepE_mem hq)).kept hB.out)
      have HEN := Lib.hid hent
      have HFO : Hid (0 < (keepE r ps).length → ∃ g, A' = some ⟨g, 0, none⟩ ∧ w.heap.size ≤ g) := by
        intro hp
        obtain ⟨g, cap, e, h1, _⟩ := hfm.out.form hp
        injection e with e
        exact ⟨g, e, h1⟩
      clear hkn hS2 hent hM hS ht hfm
      go_wp2
      go_ret
      exact ⟨A', c', rfl, HEN.out, HFO.out, hB.out⟩

end Go.Proofs.Ytblhcnafoejahaa
