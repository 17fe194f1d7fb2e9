/- The walks of the model's further loops over dimensions: spec.l1Margin, l1Overlap, l1Dist. For boxes without a fault. -/
import Derived.Test.YtfpmbkfikfdmkaaSpecLoops
namespace Go.Proofs.Ytfpmbkfikfdmkaa
open Go.RowKit

set_option maxHeartbeats 1600000 in
theorem l1Margin_any (b1 n c1 c2 lo1 lo2 : Nat) (A1 A2 : Option Addr) (xs ys : List Int) (w : World)
    (ht : w.cell? ⟨b1, 0, none⟩ = some (.slice A1 n c1)) (ht' : w.cell? ⟨b1, 1, none⟩ = some (.slice A2 n c2))
    (h1 : Ints w lo1 A1 n xs) (h2 : Ints w lo2 A2 n ys) (hr : Right xs ys n) :
    Calls Try.prog 89 #[.pointer (some ⟨b1, 0, none⟩)] w fun e w' => e = .returned (.int .i64 (marginTo xs ys n)) ∧ Drawn w w' := by
  have T1 := Lib.hid ht
  have T2 := Lib.hid ht'
  have H1 := Lib.hid h1
  have H2 := Lib.hid h2
  have hn : n ≤ 3 := by rcases hr.dim with h | h <;> omega
  have HR := Lib.hid hr
  clear ht ht' h1 h2 hr
  go_enter Try.func89, Try.ntmps89
  go_wp2
  go_loopw [3, 4] (fun p i wr => ∃ (k : Nat) (m : Int), k ≤ n ∧ i = .int .i64 k ∧ p = .int .i64 m ∧ Hid (Drawn w wr) ∧ Hid (m = marginTo xs ys k)) (fun _ i _ => n - (intOf i).toNat)
  case atStart => exact ⟨0, 0, Nat.zero_le _, rfl, rfl, Drawn.same w, rfl⟩
  case round =>
    obtain ⟨k, m, hk, rfl, rfl, hd, hm⟩ := hrel
    have t1 : wr.cell? ⟨b1, 0, none⟩ = some (.slice A1 n c1) := (hd.out.cell _).trans T1.out
    have t2 : wr.cell? ⟨b1, 1, none⟩ = some (.slice A2 n c2) := (hd.out.cell _).trans T2.out
    by_cases hlt : k < n
    · obtain ⟨g1, o1, x, rfl, _, _, e1, hx⟩ := H1.out.cellAt hlt
      obtain ⟨g2, o2, y, rfl, _, _, e2, hy⟩ := H2.out.cellAt hlt
      have d1 : wr.cell? ⟨g1, o1 + k, none⟩ = some (.int .i64 x) := (hd.out.cell _).trans e1
      have d2 : wr.cell? ⟨g2, o2 + k, none⟩ = some (.int .i64 y) := (hd.out.cell _).trans e2
      obtain ⟨r1, r2, r3⟩ := HR.out.at_ k x y hx.out hy.out
      have hb := marginTo_bd HR.out k hk
      have m0 : 0 ≤ m := by rw [hm.out]; exact hb.1
      have m1 : m ≤ 6000 := by rw [hm.out]; omega
      have HM : Hid (m + y - x = marginTo xs ys (k + 1)) := by show _ = _; simp only [marginTo, getD_of hx.out, getD_of hy.out, ← hm.out]
      clear e1 e2 hb
      go_wp2
      go_quiet (fail)
      go_wp2
      go_roundw
      case rel => exact ⟨k + 1, m + y - x, by omega, by go_num, rfl, hd.out.more _, HM⟩
      case measure => simp [intOf]; omega
    · have hkn : k = n := by omega
      have HM : Hid (m = marginTo xs ys n) := hkn ▸ hm.out
      clear hkn
      go_wp2
      go_ret
      exact ⟨ret_i64 HM.out, hd.out⟩

set_option maxHeartbeats 3200000 in
theorem l1Overlap_any (b1 b2 n c1 c2 c3 c4 lo1 lo2 lo3 lo4 : Nat) (A1 A2 A3 A4 : Option Addr) (xs ys us vs : List Int) (w : World)
    (ht : Two b1 b2 (.slice A1 n c1) (.slice A2 n c2) (.slice A3 n c3) (.slice A4 n c4) w)
    (h1 : Ints w lo1 A1 n xs) (h2 : Ints w lo2 A2 n ys) (h3 : Ints w lo3 A3 n us) (h4 : Ints w lo4 A4 n vs) (hr : Right xs ys n) (hr' : Right us vs n) :
    Calls Try.prog 85 #[.pointer (some ⟨b1, 0, none⟩), .pointer (some ⟨b2, 0, none⟩)] w fun e w' => e = .returned (.int .i64 (overTo xs ys us vs n)) ∧ Drawn w w' := by
  have HT := Lib.hid ht
  have H1 := Lib.hid h1
  have H2 := Lib.hid h2
  have H3 := Lib.hid h3
  have H4 := Lib.hid h4
  have hn : n ≤ 3 := by rcases hr.dim with h | h <;> omega
  have HR := Lib.hid hr
  have HR' := Lib.hid hr'
  clear ht h1 h2 h3 h4 hr hr'
  go_enter Try.func85, Try.ntmps85
  go_wp2
  go_loopw [5, 6] (fun p i wr => ∃ (k : Nat) (m : Int), k ≤ n ∧ i = .int .i64 k ∧ p = .int .i64 m ∧ Hid (Drawn w wr) ∧ Hid (m = overTo xs ys us vs k)) (fun _ i _ => n - (intOf i).toNat)
  case atStart => exact ⟨0, 1, Nat.zero_le _, rfl, rfl, Drawn.same w, rfl⟩
  case round =>
    obtain ⟨k, m, hk, rfl, rfl, hd, hm⟩ := hrel
    have t1 : wr.cell? ⟨b1, 0, none⟩ = some (.slice A1 n c1) := (hd.out.cell _).trans HT.out.1
    have t2 : wr.cell? ⟨b1, 1, none⟩ = some (.slice A2 n c2) := (hd.out.cell _).trans HT.out.2.1
    have t3 : wr.cell? ⟨b2, 0, none⟩ = some (.slice A3 n c3) := (hd.out.cell _).trans HT.out.2.2.1
    have t4 : wr.cell? ⟨b2, 1, none⟩ = some (.slice A4 n c4) := (hd.out.cell _).trans HT.out.2.2.2
    by_cases hlt : k < n
    · obtain ⟨g1, o1, x, rfl, _, _, e1, hx⟩ := H1.out.cellAt hlt
      obtain ⟨g2, o2, y, rfl, _, _, e2, hy⟩ := H2.out.cellAt hlt
      obtain ⟨g3, o3, u, rfl, _, _, e3, hu⟩ := H3.out.cellAt hlt
      obtain ⟨g4, o4, v, rfl, _, _, e4, hv⟩ := H4.out.cellAt hlt
      have d1 : wr.cell? ⟨g1, o1 + k, none⟩ = some (.int .i64 x) := (hd.out.cell _).trans e1
      have d2 : wr.cell? ⟨g2, o2 + k, none⟩ = some (.int .i64 y) := (hd.out.cell _).trans e2
      have d3 : wr.cell? ⟨g3, o3 + k, none⟩ = some (.int .i64 u) := (hd.out.cell _).trans e3
      have d4 : wr.cell? ⟨g4, o4 + k, none⟩ = some (.int .i64 v) := (hd.out.cell _).trans e4
      obtain ⟨r1, r2, r3⟩ := HR.out.at_ k x y hx.out hy.out
      obtain ⟨s1, s2, s3⟩ := HR'.out.at_ k u v hu.out hv.out
      have hb := overTo_bd (us := us) (vs := vs) HR.out k hk
      have hp := pow_small (k := k) (by omega)
      have m0 : 0 ≤ m := by rw [hm.out]; exact hb.1
      have m1 : m ≤ 4000000 := by rw [hm.out]; omega
      have hq := mul_le m0 (show 0 ≤ max (min y v - max x u) 0 by omega) m1 (show max (min y v - max x u) 0 ≤ 2000 by omega)
      have hw := wrap64_in (m * max (min y v - max x u) 0) (by omega) (by omega)
      have hw2 := wrap64_in (min y v - max x u) (by omega) (by omega)
      have HM : Hid (m * max (min y v - max x u) 0 = overTo xs ys us vs (k + 1)) := by show _ = _; simp only [overTo, getD_of hx.out, getD_of hy.out, getD_of hu.out, getD_of hv.out, ← hm.out]
      clear e1 e2 e3 e4 hb hp hq r1 r2 r3 s1 s2 s3
      go_wp2
      go_quiet (first | (go_at_call 66; exact Calls.quiet_of_same (l1Min_any _ _ _)) | (go_at_call 123; exact Calls.quiet_of_same (l1Max_any _ _ _)))
      go_wp2
      go_roundw
      case rel => exact ⟨k + 1, m * max (min y v - max x u) 0, by omega, by go_num, by first | rfl | (rw [hw]), hd.out.more _, HM⟩
      case measure => simp [intOf]; omega
    · have hkn : k = n := by omega
      have HM : Hid (m = overTo xs ys us vs n) := hkn ▸ hm.out
      clear hkn
      go_wp2
      go_ret
      exact ⟨ret_i64 HM.out, hd.out⟩

theorem distTo_bd {xs ys ps : List Int} {n : Nat} (h : Right xs ys n) (hp : allIn (-1000) 1000 ps = true) (hl : ps.length = n) : ∀ k, k ≤ n → 0 ≤ distTo xs ys ps k ∧ distTo xs ys ps k ≤ 2000 * k
  | 0, _ => by simp [distTo]
  | k + 1, hk => by
    have ih := distTo_bd h hp hl k (by omega)
    have hg := h.get (k := k) (by omega)
    have h1 : ps[k]? = some (ps.getD k 0) := by rw [List.getElem?_eq_getElem (by omega)]; simp [List.getElem?_eq_getElem (show k < ps.length by omega)]
    have h2 := allIn_at hp h1
    simp only [distTo]
    omega


end Go.Proofs.Ytfpmbkfikfdmkaa
