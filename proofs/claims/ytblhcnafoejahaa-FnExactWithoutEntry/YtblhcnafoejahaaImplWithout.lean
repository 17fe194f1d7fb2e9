/- The walk of impl.WithoutEntry. No condition but the length. -/
import Derived.Test.YtblhcnafoejahaaWithout
import Derived.Test.YtblhcnafoejahaaEntryFor
import Derived.Test.YtblhcnafoejahaaNodeResult
namespace Go.Proofs.Ytblhcnafoejahaa
open Go.RowKit

/-- An answer that is a node: with a code that is not 0 all else is zero. -/
def nrOf (cd lv ns rt : Int) (vs : List EVal) : Int × Int × Int × Int × List EVal := if cd = 0 then (0, lv, ns, rt, vs) else (cd, 0, 0, 0, [])
theorem nrOf_no {cd lv ns rt : Int} {vs : List EVal} (h : cd ≠ 0) : nrOf cd lv ns rt vs = (cd, 0, 0, 0, []) := by unfold nrOf; rw [if_neg h]
theorem nrOf_yes {cd lv ns rt : Int} {vs : List EVal} (h : cd = 0) : nrOf cd lv ns rt vs = (0, lv, ns, rt, vs) := by unfold nrOf; rw [if_pos h]
/-- What WithoutEntry answers. -/
def withoutR (lv ns rt : Int) (vs : List EVal) (d r : Int) : Int × Int × Int × Int × List EVal := nrOf (efC (nodeF lv ns rt vs d) (findE r vs)) lv ns rt (vs.eraseIdx (findE r vs).toNat)
/-- The answer R lies in memory, and owns its rows. -/
def ResPost (R : Int × Int × Int × Int × List EVal) (w : World) (e : Ending) (w' : World) : Prop :=
  ∃ A' n' c' qs, e = .returned (.agg #[.int .i64 R.1, .int .i64 R.2.1, .int .i64 R.2.2.1, .int .i64 R.2.2.2.1, .slice A' n' c']) ∧ EntriesRes w' w.heap.size A' n' c' qs ∧ qs.map EV.val = R.2.2.2.2 ∧ n' ≤ 6 ∧ Below w.heap.size w w'

set_option maxRecDepth 100000 in
set_option maxHeartbeats 3200000 in
theorem implWithoutEntry_any (lv ns rt d r : Int) (n c : Nat) (A : Option Addr) (ps : List EV) (w : World) (hp : Entries w A n ps) (hn : n ≤ maxLen) :
    Calls Try.prog 23 #[.agg #[.int .i64 lv, .int .i64 ns, .int .i64 rt, .slice A n c], .int .i64 d, .int .i64 r] w (ResPost (withoutR lv ns rt (ps.map EV.val) d r) w) := by
  have HP := Lib.hid hp
  have HL : Hid ((ps.map EV.val).length = n) := by show List.length _ = n; rw [List.length_map]; exact hp.1
  clear hp
  have B := Lib.hid (below_alloc w (.cells #[.int .i64 lv, .int .i64 ns, .int .i64 rt, .slice A n c] 29))
  replace B := Lib.hid (B.out.alloc B.out.size (.cells #[.int .i64 0, .int .i64 0, .int .i64 0, .int .i64 0, .slice none 0 0] 48))
  have L_r := Lib.hid (Lies.new (w.alloc (.cells #[.int .i64 lv, .int .i64 ns, .int .i64 rt, .slice A n c] 29)) 48 #[.int .i64 0, .int .i64 0, .int .i64 0, .int .i64 0, .slice none 0 0])
  simp only [World.size_alloc] at L_r
  go_enter Try.func23, Try.ntmps23
  go_wp2_with fail
  refine (readNode_any _ _ _ _ _ _ _ ps _ (HP.out.kept B.out) hn).mono ?_
  rintro e W1 ⟨b1, h⟩
  replace L_r := Lib.hid (L_r.out.kept b1 L_r.out.inside)
  replace B := Lib.hid (B.out.trans (b1.mono B.out.size))
  clear b1
  rcases h with ⟨hz, rfl⟩ | ⟨hz, A', c', ss, rfl, hS, hO⟩
  · have hz1 : (nodeF lv ns rt (ps.map EV.val) d != 0) = true := by simpa using hz
    have HR : Hid (withoutR lv ns rt (ps.map EV.val) d r = (nodeF lv ns rt (ps.map EV.val) d, 0, 0, 0, [])) := by
      show withoutR _ _ _ _ _ _ = _
      have e1 : efC (nodeF lv ns rt (ps.map EV.val) d) (findE r (ps.map EV.val)) = nodeF lv ns rt (ps.map EV.val) d := by unfold efC; rw [if_pos hz]
      unfold withoutR; rw [e1]; exact nrOf_no hz
    clear hz
    have z0 : W1.cell? ⟨w.heap.size + 1, 0, none⟩ = some (.int .i64 0) := L_r.out.cell 0
    have y0 : W1.frozen? ⟨w.heap.size + 1, 0, none⟩ = false := L_r.out.thawed 0
    have z1 : W1.cell? ⟨w.heap.size + 1, 1, none⟩ = some (.int .i64 0) := L_r.out.cell 1
    have y1 : W1.frozen? ⟨w.heap.size + 1, 1, none⟩ = false := L_r.out.thawed 1
    have z2 : W1.cell? ⟨w.heap.size + 1, 2, none⟩ = some (.int .i64 0) := L_r.out.cell 2
    have y2 : W1.frozen? ⟨w.heap.size + 1, 2, none⟩ = false := L_r.out.thawed 2
    have z3 : W1.cell? ⟨w.heap.size + 1, 3, none⟩ = some (.int .i64 0) := L_r.out.cell 3
    have y3 : W1.frozen? ⟨w.heap.size + 1, 3, none⟩ = false := L_r.out.thawed 3
    have z4 : W1.cell? ⟨w.heap.size + 1, 4, none⟩ = some (.slice none 0 0) := L_r.out.cell 4
    have y4 : W1.frozen? ⟨w.heap.size + 1, 4, none⟩ = false := L_r.out.thawed 4
    go_wp2
    refine bodyPost_ret (v := .agg #[.int .i64 (nodeF lv ns rt (ps.map EV.val) d), .int .i64 0, .int .i64 0, .int .i64 0, .slice none 0 0]) (by simp [results, Try.results23, go_sem, z0, z1, z2, z3, z4]) rfl ?_
    refine ⟨none, 0, 0, [], by rw [HR.out], EntriesRes.nil _ _, by rw [HR.out]; rfl, by decide, ?_⟩
    repeat (with_reducible refine Below.setCell ?_ (by exact Nat.le_succ _) _)
    exact B.out
  have HS := Lib.hid hS
  have HO := Lib.hid hO
  have HZ := Lib.hid hz
  obtain ⟨hok, hn5, hent, _, _⟩ := nodeF_zero hz
  have HE := Lib.hid (lens_of hent)
  have hd2 : 2 ≤ d := hok.1.1
  have hd3 : d ≤ 3 := hok.1.2
  have hn5' : n ≤ 5 := by rw [HL.out] at hn5; exact hn5
  clear hS hO hz hok hent hn5
  by_cases hl0 : lv = 0
  · have hm1 : ∀ w : World, (method 281 150 (.agg #[.int .i64 d, .slice A' n c', .int .i64 lv, .int .i64 ns, .int .i64 rt]) "loop.example/g00680/impl.place").run Try.prog w = .ok (120, .agg #[.int .i64 d, .slice A' n c']) w := fun _ => by kernel_rfl
    have hm2 : ∀ w : World, (method 281 150 (.agg #[.int .i64 d, .slice A' n c', .int .i64 lv, .int .i64 ns, .int .i64 rt]) "loop.example/g00680/impl.without").run Try.prog w = .ok (128, .agg #[.int .i64 d, .slice A' n c', .int .i64 lv, .int .i64 ns, .int .i64 rt]) w := fun _ => by kernel_rfl
    have HV : Hid (holderV d lv ns rt A' n c' = .iface 150 (.agg #[.int .i64 d, .slice A' n c', .int .i64 lv, .int .i64 ns, .int .i64 rt])) := by show holderV _ _ _ _ _ _ _ = _; unfold holderV; rw [if_pos hl0]
    clear hl0
    rw [HV.out]
    by_cases hf : findE r (ps.map EV.val) < 0
    · have HR : Hid (withoutR lv ns rt (ps.map EV.val) d r = (4, 0, 0, 0, [])) := by
        show withoutR _ _ _ _ _ _ = _
        have e1 : efC (nodeF lv ns rt (ps.map EV.val) d) (findE r (ps.map EV.val)) = 4 := by unfold efC; rw [if_neg (by simp [HZ.out]), if_pos hf]
        unfold withoutR; rw [e1]; exact nrOf_no (by decide)
      go_wp2_with fail
      refine (place_any _ r _ _ _ (ps.map EV.val) ss _ HS.out HO.out hn).mono ?_
      rintro e W2 ⟨rfl, b2⟩
      replace L_r := Lib.hid (L_r.out.kept b2 L_r.out.inside)
      replace B := Lib.hid (B.out.trans (b2.mono B.out.size))
      clear b2
      have z0 : W2.cell? ⟨w.heap.size + 1, 0, none⟩ = some (.int .i64 0) := L_r.out.cell 0
      have y0 : W2.frozen? ⟨w.heap.size + 1, 0, none⟩ = false := L_r.out.thawed 0
      have z1 : W2.cell? ⟨w.heap.size + 1, 1, none⟩ = some (.int .i64 0) := L_r.out.cell 1
      have y1 : W2.frozen? ⟨w.heap.size + 1, 1, none⟩ = false := L_r.out.thawed 1
      have z2 : W2.cell? ⟨w.heap.size + 1, 2, none⟩ = some (.int .i64 0) := L_r.out.cell 2
      have y2 : W2.frozen? ⟨w.heap.size + 1, 2, none⟩ = false := L_r.out.thawed 2
      have z3 : W2.cell? ⟨w.heap.size + 1, 3, none⟩ = some (.int .i64 0) := L_r.out.cell 3
      have y3 : W2.frozen? ⟨w.heap.size + 1, 3, none⟩ = false := L_r.out.thawed 3
      have z4 : W2.cell? ⟨w.heap.size + 1, 4, none⟩ = some (.slice none 0 0) := L_r.out.cell 4
      have y4 : W2.frozen? ⟨w.heap.size + 1, 4, none⟩ = false := L_r.out.thawed 4
      go_wp2
      refine bodyPost_ret (v := .agg #[.int .i64 4, .int .i64 0, .int .i64 0, .int .i64 0, .slice none 0 0]) (by simp [results, Try.results23, go_sem, z0, z1, z2, z3, z4]) rfl ?_
      refine ⟨none, 0, 0, [], by rw [HR.out], EntriesRes.nil _ _, by rw [HR.out]; rfl, by decide, ?_⟩
      repeat (with_reducible refine Below.setCell ?_ (by exact Nat.le_succ _) _)
      exact B.out
    · obtain ⟨i, hi⟩ : ∃ i : Nat, findE r (ps.map EV.val) = (i : Int) := ⟨(findE r (ps.map EV.val)).toNat, by omega⟩
      have HR : Hid (withoutR lv ns rt (ps.map EV.val) d r = (0, lv, ns, rt, (ps.map EV.val).eraseIdx i)) := by
        show withoutR _ _ _ _ _ _ = _
        have e1 : efC (nodeF lv ns rt (ps.map EV.val) d) (findE r (ps.map EV.val)) = 0 := by unfold efC; rw [if_neg (by simp [HZ.out]), if_neg hf]
        unfold withoutR; rw [e1, nrOf_yes rfl, hi, Int.toNat_natCast]
      have hin : i < n := by
        obtain ⟨v, hv, _⟩ := findE_at hi
        have := (List.getElem?_eq_some_iff.1 hv).1
        rw [HL.out] at this; exact this
      have HI := Lib.hid hi
      clear hi hf
      obtain ⟨m, rfl⟩ : ∃ m, n = m + 1 := ⟨n - 1, by omega⟩
      have hnn : ¬ ((i : Int) < 0) := by omega
      go_wp2_with fail
      refine (place_any _ r _ _ _ (ps.map EV.val) ss _ HS.out HO.out hn).mono ?_
      rintro e W2 ⟨rfl, b2⟩
      rw [HI.out]
      replace L_r := Lib.hid (L_r.out.kept b2 L_r.out.inside)
      replace HS := Lib.hid (HS.out.kept b2)
      replace B := Lib.hid (B.out.trans (b2.mono B.out.size))
      clear b2
      go_wp2_with fail
      refine (without_any d lv ns rt m c' i A' (ps.map EV.val) ss _ HS.out HO.out (by omega) hin).mono ?_
      rintro e W2' ⟨g2, k2, rfl, hs2, ho2, b3⟩
      replace L_r := Lib.hid (L_r.out.kept b3 L_r.out.inside)
      replace B := Lib.hid (B.out.trans (b3.mono B.out.size))
      have HS2 := Lib.hid hs2
      have HO2 := Lib.hid ho2
      have HE2 := Lib.hid (HE.out.erase i)
      clear b3 hs2 ho2
      go_wp2_with fail
      refine (bodyNode_any d lv ns rt m k2 d.toNat (some ⟨g2, 0, none⟩) _ _ _ HS2.out HO2.out (by omega) HE2.out (by omega) (by omega)).mono ?_
      rintro e W3 ⟨A2, c2, qs, rfl, rs, vq, b3⟩
      have hs := B.out.size
      have hr := L_r.out.inside
      replace L_r := Lib.hid (L_r.out.kept b3 L_r.out.inside)
      replace B := Lib.hid (B.out.trans (b3.mono B.out.size))
      have RS := Lib.hid rs
      have VQ := Lib.hid vq
      clear b3 rs vq
      have z0 : W3.cell? ⟨w.heap.size + 1, 0, none⟩ = some (.int .i64 0) := L_r.out.cell 0
      have y0 : W3.frozen? ⟨w.heap.size + 1, 0, none⟩ = false := L_r.out.thawed 0
      have z1 : W3.cell? ⟨w.heap.size + 1, 1, none⟩ = some (.int .i64 0) := L_r.out.cell 1
      have y1 : W3.frozen? ⟨w.heap.size + 1, 1, none⟩ = false := L_r.out.thawed 1
      have z2 : W3.cell? ⟨w.heap.size + 1, 2, none⟩ = some (.int .i64 0) := L_r.out.cell 2
      have y2 : W3.frozen? ⟨w.heap.size + 1, 2, none⟩ = false := L_r.out.thawed 2
      have z3 : W3.cell? ⟨w.heap.size + 1, 3, none⟩ = some (.int .i64 0) := L_r.out.cell 3
      have y3 : W3.frozen? ⟨w.heap.size + 1, 3, none⟩ = false := L_r.out.thawed 3
      have z4 : W3.cell? ⟨w.heap.size + 1, 4, none⟩ = some (.slice none 0 0) := L_r.out.cell 4
      have y4 : W3.frozen? ⟨w.heap.size + 1, 4, none⟩ = false := L_r.out.thawed 4
      go_wp2
      refine bodyPost_ret (v := .agg #[.int .i64 0, .int .i64 lv, .int .i64 ns, .int .i64 rt, .slice A2 m c2]) (by simp [results, Try.results23, go_sem, z0, z1, z2, z3, z4]) rfl ?_
      refine ⟨A2, m, c2, qs, by rw [HR.out], ?_, by rw [HR.out]; exact VQ.out, by omega, ?_⟩
      · exact (((((RS.out.farLow (by show w.heap.size + 1 < _; omega) _).farLow (by show w.heap.size + 1 < _; omega) _).farLow (by show w.heap.size + 1 < _; omega) _).farLow (by show w.heap.size + 1 < _; omega) _).farLow (by show w.heap.size + 1 < _; omega) _).lower (by omega)
      · repeat (with_reducible refine Below.setCell ?_ (by exact Nat.le_succ _) _)
        exact B.out
  · have hm1 : ∀ w : World, (method 281 151 (.agg #[.int .i64 d, .slice A' n c', .int .i64 lv, .int .i64 ns, .int .i64 rt]) "loop.example/g00680/impl.place").run Try.prog w = .ok (120, .agg #[.int .i64 d, .slice A' n c']) w := fun _ => by kernel_rfl
    have hm2 : ∀ w : World, (method 281 151 (.agg #[.int .i64 d, .slice A' n c', .int .i64 lv, .int .i64 ns, .int .i64 rt]) "loop.example/g00680/impl.without").run Try.prog w = .ok (128, .agg #[.int .i64 d, .slice A' n c', .int .i64 lv, .int .i64 ns, .int .i64 rt]) w := fun _ => by kernel_rfl
    have HV : Hid (holderV d lv ns rt A' n c' = .iface 151 (.agg #[.int .i64 d, .slice A' n c', .int .i64 lv, .int .i64 ns, .int .i64 rt])) := by show holderV _ _ _ _ _ _ _ = _; unfold holderV; rw [if_neg hl0]
    clear hl0
    rw [HV.out]
    by_cases hf : findE r (ps.map EV.val) < 0
    · have HR : Hid (withoutR lv ns rt (ps.map EV.val) d r = (4, 0, 0, 0, [])) := by
        show withoutR _ _ _ _ _ _ = _
        have e1 : efC (nodeF lv ns rt (ps.map EV.val) d) (findE r (ps.map EV.val)) = 4 := by unfold efC; rw [if_neg (by simp [HZ.out]), if_pos hf]
        unfold withoutR; rw [e1]; exact nrOf_no (by decide)
      go_wp2_with fail
      refine (place_any _ r _ _ _ (ps.map EV.val) ss _ HS.out HO.out hn).mono ?_
      rintro e W2 ⟨rfl, b2⟩
      replace L_r := Lib.hid (L_r.out.kept b2 L_r.out.inside)
      replace B := Lib.hid (B.out.trans (b2.mono B.out.size))
      clear b2
      have z0 : W2.cell? ⟨w.heap.size + 1, 0, none⟩ = some (.int .i64 0) := L_r.out.cell 0
      have y0 : W2.frozen? ⟨w.heap.size + 1, 0, none⟩ = false := L_r.out.thawed 0
      have z1 : W2.cell? ⟨w.heap.size + 1, 1, none⟩ = some (.int .i64 0) := L_r.out.cell 1
      have y1 : W2.frozen? ⟨w.heap.size + 1, 1, none⟩ = false := L_r.out.thawed 1
      have z2 : W2.cell? ⟨w.heap.size + 1, 2, none⟩ = some (.int .i64 0) := L_r.out.cell 2
      have y2 : W2.frozen? ⟨w.heap.size + 1, 2, none⟩ = false := L_r.out.thawed 2
      have z3 : W2.cell? ⟨w.heap.size + 1, 3, none⟩ = some (.int .i64 0) := L_r.out.cell 3
      have y3 : W2.frozen? ⟨w.heap.size + 1, 3, none⟩ = false := L_r.out.thawed 3
      have z4 : W2.cell? ⟨w.heap.size + 1, 4, none⟩ = some (.slice none 0 0) := L_r.out.cell 4
      have y4 : W2.frozen? ⟨w.heap.size + 1, 4, none⟩ = false := L_r.out.thawed 4
      go_wp2
      refine bodyPost_ret (v := .agg #[.int .i64 4, .int .i64 0, .int .i64 0, .int .i64 0, .slice none 0 0]) (by simp [results, Try.results23, go_sem, z0, z1, z2, z3, z4]) rfl ?_
      refine ⟨none, 0, 0, [], by rw [HR.out], EntriesRes.nil _ _, by rw [HR.out]; rfl, by decide, ?_⟩
      repeat (with_reducible refine Below.setCell ?_ (by exact Nat.le_succ _) _)
      exact B.out
    · obtain ⟨i, hi⟩ : ∃ i : Nat, findE r (ps.map EV.val) = (i : Int) := ⟨(findE r (ps.map EV.val)).toNat, by omega⟩
      have HR : Hid (withoutR lv ns rt (ps.map EV.val) d r = (0, lv, ns, rt, (ps.map EV.val).eraseIdx i)) := by
        show withoutR _ _ _ _ _ _ = _
        have e1 : efC (nodeF lv ns rt (ps.map EV.val) d) (findE r (ps.map EV.val)) = 0 := by unfold efC; rw [if_neg (by simp [HZ.out]), if_neg hf]
        unfold withoutR; rw [e1, nrOf_yes rfl, hi, Int.toNat_natCast]
      have hin : i < n := by
        obtain ⟨v, hv, _⟩ := findE_at hi
        have := (List.getElem?_eq_some_iff.1 hv).1
        rw [HL.out] at this; exact this
      have HI := Lib.hid hi
      clear hi hf
      obtain ⟨m, rfl⟩ : ∃ m, n = m + 1 := ⟨n - 1, by omega⟩
      have hnn : ¬ ((i : Int) < 0) := by omega
      go_wp2_with fail
      refine (place_any _ r _ _ _ (ps.map EV.val) ss _ HS.out HO.out hn).mono ?_
      rintro e W2 ⟨rfl, b2⟩
      rw [HI.out]
      replace L_r := Lib.hid (L_r.out.kept b2 L_r.out.inside)
      replace HS := Lib.hid (HS.out.kept b2)
      replace B := Lib.hid (B.out.trans (b2.mono B.out.size))
      clear b2
      go_wp2_with fail
      refine (without_any d lv ns rt m c' i A' (ps.map EV.val) ss _ HS.out HO.out (by omega) hin).mono ?_
      rintro e W2' ⟨g2, k2, rfl, hs2, ho2, b3⟩
      replace L_r := Lib.hid (L_r.out.kept b3 L_r.out.inside)
      replace B := Lib.hid (B.out.trans (b3.mono B.out.size))
      have HS2 := Lib.hid hs2
      have HO2 := Lib.hid ho2
      have HE2 := Lib.hid (HE.out.erase i)
      clear b3 hs2 ho2
      go_wp2_with fail
      refine (bodyNode_any d lv ns rt m k2 d.toNat (some ⟨g2, 0, none⟩) _ _ _ HS2.out HO2.out (by omega) HE2.out (by omega) (by omega)).mono ?_
      rintro e W3 ⟨A2, c2, qs, rfl, rs, vq, b3⟩
      have hs := B.out.size
      have hr := L_r.out.inside
      replace L_r := Lib.hid (L_r.out.kept b3 L_r.out.inside)
      replace B := Lib.hid (B.out.trans (b3.mono B.out.size))
      have RS := Lib.hid rs
      have VQ := Lib.hid vq
      clear b3 rs vq
      have z0 : W3.cell? ⟨w.heap.size + 1, 0, none⟩ = some (.int .i64 0) := L_r.out.cell 0
      have y0 : W3.frozen? ⟨w.heap.size + 1, 0, none⟩ = false := L_r.out.thawed 0
      have z1 : W3.cell? ⟨w.heap.size + 1, 1, none⟩ = some (.int .i64 0) := L_r.out.cell 1
      have y1 : W3.frozen? ⟨w.heap.size + 1, 1, none⟩ = false := L_r.out.thawed 1
      have z2 : W3.cell? ⟨w.heap.size + 1, 2, none⟩ = some (.int .i64 0) := L_r.out.cell 2
      have y2 : W3.frozen? ⟨w.heap.size + 1, 2, none⟩ = false := L_r.out.thawed 2
      have z3 : W3.cell? ⟨w.heap.size + 1, 3, none⟩ = some (.int .i64 0) := L_r.out.cell 3
      have y3 : W3.frozen? ⟨w.heap.size + 1, 3, none⟩ = false := L_r.out.thawed 3
      have z4 : W3.cell? ⟨w.heap.size + 1, 4, none⟩ = some (.slice none 0 0) := L_r.out.cell 4
      have y4 : W3.frozen? ⟨w.heap.size + 1, 4, none⟩ = false := L_r.out.thawed 4
      go_wp2
      refine bodyPost_ret (v := .agg #[.int .i64 0, .int .i64 lv, .int .i64 ns, .int .i64 rt, .slice A2 m c2]) (by simp [results, Try.results23, go_sem, z0, z1, z2, z3, z4]) rfl ?_
      refine ⟨A2, m, c2, qs, by rw [HR.out], ?_, by rw [HR.out]; exact VQ.out, by omega, ?_⟩
      · exact (((((RS.out.farLow (by show w.heap.size + 1 < _; omega) _).farLow (by show w.heap.size + 1 < _; omega) _).farLow (by show w.heap.size + 1 < _; omega) _).farLow (by show w.heap.size + 1 < _; omega) _).farLow (by show w.heap.size + 1 < _; omega) _).lower (by omega)
      · repeat (with_reducible refine Below.setCell ?_ (by exact Nat.le_succ _) _)
        exact B.out

end Go.Proofs.Ytblhcnafoejahaa
