/- The walks of the model's further loops over dimensions: spec.l1Margin, l1Overlap, l1Dist. For boxes without a fault. -/
import Derived.Test.YtbonpmgbcdknbaaSpecLoops
namespace Go.Proofs.Ytbonpmgbcdknbaa
open Go.RowKit



theorem distTo_bd {xs ys ps : List Int} {n : Nat} (h : Right xs ys n) (hp : allIn (-1000) 1000 ps = true) (hl : ps.length = n) : ∀ k, k ≤ n → 0 ≤ distTo xs ys ps k ∧ distTo xs ys ps k ≤ 2000 * k
  | 0, _ => by simp [distTo]
  | k + 1, hk => by
    have ih := distTo_bd h hp hl k (by omega)
    have hg := h.get (k := k) (by omega)
    have h1 : ps[k]? = some (ps.getD k 0) := by rw [List.getElem?_eq_getElem (by omega)]; simp [List.getElem?_eq_getElem (show k < ps.length by omega)]
    have h2 := allIn_at hp h1
    simp only [distTo]
    omega

set_option maxHeartbeats 3200000 in
theorem l1Dist_at (b1 f1 n c1 c2 c3 lo1 lo2 lo3 : Nat) (A1 A2 A3 : Option Addr) (xs ys ps : List Int) (w : World)
    (ht : w.cell? ⟨b1, f1, none⟩ = some (.slice A1 n c1)) (ht' : w.cell? ⟨b1, f1 + 1, none⟩ = some (.slice A2 n c2))
    (h1 : Ints w lo1 A1 n xs) (h2 : Ints w lo2 A2 n ys) (h3 : Ints w lo3 A3 n ps) (hr : Right xs ys n) (hp : allIn (-1000) 1000 ps = true) :
    Calls Try.prog 89 #[.pointer (some ⟨b1, f1, none⟩), .slice A3 n c3] w fun e w' => e = .returned (.int .i64 (distTo xs ys ps n)) ∧ Drawn w w' := by
  have T1 := Lib.hid ht
  have T2 := Lib.hid ht'
  have H1 := Lib.hid h1
  have H2 := Lib.hid h2
  have H3 := Lib.hid h3
  have HP := Lib.hid hp
  have hn : n ≤ 3 := by rcases hr.dim with h | h <;> omega
  have HR := Lib.hid hr
  clear ht ht' h1 h2 h3 hr hp
  go_enter Try.func89, Try.ntmps89
  go_wp2
  go_loopw [5, 6] (fun p i wr => ∃ (k : Nat) (m : Int), k ≤ n ∧ i = .int .i64 k ∧ p = .int .i64 m ∧ Hid (Drawn w wr) ∧ Hid (m = distTo xs ys ps k)) (fun _ i _ => n - (intOf i).toNat)
  case atStart => exact ⟨0, 0, Nat.zero_le _, rfl, rfl, Drawn.same w, rfl⟩
  case round =>
    obtain ⟨k, m, hk, rfl, rfl, hd, hm⟩ := hrel
    have t1 : wr.cell? ⟨b1, f1, none⟩ = some (.slice A1 n c1) := (hd.out.cell _).trans T1.out
    have t2 : wr.cell? ⟨b1, f1 + 1, none⟩ = some (.slice A2 n c2) := (hd.out.cell _).trans T2.out
    by_cases hlt : k < n
    · obtain ⟨g1, o1, x, rfl, _, _, e1, hx⟩ := H1.out.cellAt hlt
      obtain ⟨g2, o2, y, rfl, _, _, e2, hy⟩ := H2.out.cellAt hlt
      obtain ⟨g3, o3, z, rfl, _, _, e3, hz⟩ := H3.out.cellAt hlt
      have d1 : wr.cell? ⟨g1, o1 + k, none⟩ = some (.int .i64 x) := (hd.out.cell _).trans e1
      have d2 : wr.cell? ⟨g2, o2 + k, none⟩ = some (.int .i64 y) := (hd.out.cell _).trans e2
      have d3 : wr.cell? ⟨g3, o3 + k, none⟩ = some (.int .i64 z) := (hd.out.cell _).trans e3
      obtain ⟨r1, r2, r3⟩ := HR.out.at_ k x y hx.out hy.out
      obtain ⟨s1, s2⟩ := allIn_at HP.out hz.out
      have hb := distTo_bd HR.out HP.out H3.out.1 k hk
      have m0 : 0 ≤ m := by rw [hm.out]; exact hb.1
      have m1 : m ≤ 6000 := by rw [hm.out]; omega
      have HM : Hid (m + max (x - z) 0 + max (z - y) 0 = distTo xs ys ps (k + 1)) := by show _ = _; simp only [distTo, getD_of hx.out, getD_of hy.out, getD_of hz.out, ← hm.out]
      have hw1 := wrap64_in (m + max (x - z) 0) (by omega) (by omega)
      have hw2 := wrap64_in (m + max (x - z) 0 + max (z - y) 0) (by omega) (by omega)
      clear e1 e2 e3 hb
      go_wp2
      go_quiet (first | (go_at_call 100; exact Calls.quiet_of_same (l1Max_any _ _ _)))
      go_wp2
      go_roundw
      case rel => exact ⟨k + 1, m + max (x - z) 0 + max (z - y) 0, by omega, by go_num, by first | rfl | (rw [hw2]), hd.out.more _, HM⟩
      case measure => simp [intOf]; omega
    · have hkn : k = n := by omega
      have HM : Hid (m = distTo xs ys ps n) := hkn ▸ hm.out
      clear hkn
      go_wp2
      go_ret
      exact ⟨ret_i64 HM.out, hd.out⟩
theorem l1Dist_any (b1 n c1 c2 c3 lo1 lo2 lo3 : Nat) (A1 A2 A3 : Option Addr) (xs ys ps : List Int) (w : World)
    (ht : w.cell? ⟨b1, 0, none⟩ = some (.slice A1 n c1)) (ht' : w.cell? ⟨b1, 1, none⟩ = some (.slice A2 n c2))
    (h1 : Ints w lo1 A1 n xs) (h2 : Ints w lo2 A2 n ys) (h3 : Ints w lo3 A3 n ps) (hr : Right xs ys n) (hp : allIn (-1000) 1000 ps = true) :
    Calls Try.prog 89 #[.pointer (some ⟨b1, 0, none⟩), .slice A3 n c3] w fun e w' => e = .returned (.int .i64 (distTo xs ys ps n)) ∧ Drawn w w' :=
  l1Dist_at b1 0 n c1 c2 c3 lo1 lo2 lo3 A1 A2 A3 xs ys ps w ht ht' h1 h2 h3 hr hp

end Go.Proofs.Ytbonpmgbcdknbaa
