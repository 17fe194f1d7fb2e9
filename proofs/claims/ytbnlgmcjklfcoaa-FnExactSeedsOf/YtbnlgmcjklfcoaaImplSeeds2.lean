/- The walks of impl.bunch's seeds. No condition but lengths. -/
import Derived.Test.YtbnlgmcjklfcoaaImplSeeds
namespace Go.Proofs.Ytbnlgmcjklfcoaa
open Go.RowKit

set_option maxRecDepth 100000 in
set_option maxHeartbeats 6400000 in
theorem seeds_any (d : Int) (n c dd : Nat) (A : Option Addr) (vs : List EVal) (ss : List SL) (w : World) (hp : Slots w A n ss) (ho : SlotsOf vs ss) (hn : n ≤ 8) (h2 : 2 ≤ n) (hr : ∀ (j : Nat) (u : EVal), vs[j]? = some u → Right u.1 u.2.1 dd) (hd : d = dd) :
    Calls Try.prog 90 #[.agg #[.int .i64 d, .slice A n c]] w fun e w' => e = .returned (.tuple #[.int .i64 ((seedOut vs dd n n).1 : Nat), .int .i64 ((seedOut vs dd n n).2 : Nat)]) ∧ Below w.heap.size w w' := by
  have HP := Lib.hid hp
  have HO := Lib.hid ho
  have HE := Lib.hid hr
  have HD := Lib.hid hd
  clear hp ho hr hd
  have B := Lib.hid (below_alloc w (.cells #[.int .i64 d, .slice A n c] 113))
  have L_b := Lib.hid (Lies.new w 113 #[.int .i64 d, .slice A n c])
  have hn63 : (n : Int) ≤ 8 := by omega
  go_enter Try.func90, Try.ntmps90
  go_wp2_with fail
  refine (waste_any _ _ _ dd _ vs ss _ (HP.out.kept B.out) HO.out hn HE.out HD.out).mono ?_
  rintro e W1 ⟨rfl, ⟨A2, c2, hw⟩, b1⟩
  have HWs := Lib.hid hw
  replace L_b := Lib.hid (L_b.out.kept b1 L_b.out.inside)
  replace B := Lib.hid (B.out.trans (b1.mono B.out.size))
  clear hw b1
  generalize hg1 : (w.alloc (.cells #[.int .i64 d, .slice A n c] 113)).heap.size = g1 at *
  clear hg1
  have x1 : W1.cell? ⟨w.heap.size, 1, none⟩ = some (.slice A n c) := L_b.out.cell 1
  go_wp2
  clear x1
  go_loopw [5, 6, 14] (fun x y i wr => ∃ (k s1 s2 : Nat), k ≤ n ∧ i = .int .i64 (k : Int) ∧ x = .int .i64 (s1 : Int) ∧ y = .int .i64 (s2 : Int) ∧ s1 < n ∧ s2 < n ∧ Hid (Below w.heap.size w wr) ∧ Hid (Lies wr w.heap.size 113 #[.int .i64 d, .slice A n c]) ∧ Hid (Wastes wr g1 (g1 + 1) d A A2 n c c2 dd vs) ∧ Hid (seedOut vs dd n k = (s1, s2))) (fun _ _ i _ => n - (intOf i).toNat)
  case atStart => exact ⟨0, 0, 1, Nat.zero_le _, rfl, rfl, rfl, by omega, by omega, B, L_b, HWs, rfl⟩
  case round =>
    obtain ⟨k, s1, s2, hk, rfl, rfl, rfl, hs1, hs2, hB, hL, hWs, hS⟩ := hrel
    by_cases hlt : k < n
    · go_wp2
      go_loopw [5, 6, 8] (fun x y jv wr => ∃ (q j t1 t2 : Nat), q ≤ n - (k + 1) ∧ Hid (j = k + 1 + q) ∧ jv = .int .i64 (j : Int) ∧ x = .int .i64 (t1 : Int) ∧ y = .int .i64 (t2 : Int) ∧ t1 < n ∧ t2 < n ∧ Hid (Below w.heap.size w wr) ∧ Hid (Lies wr w.heap.size 113 #[.int .i64 d, .slice A n c]) ∧ Hid (Wastes wr g1 (g1 + 1) d A A2 n c c2 dd vs) ∧ Hid (seedIn vs dd (s1, s2) k q = (t1, t2))) (fun _ _ jv _ => n - (intOf jv).toNat)
      case atStart => exact ⟨0, k + 1, s1, s2, Nat.zero_le _, (rfl : k + 1 = k + 1 + 0), by go_num, rfl, rfl, hs1, hs2, hB, hL, hWs, rfl⟩
      case round =>
        obtain ⟨q, j, t1, t2, hq, hj, rfl, rfl, rfl, ht1, ht2, hB2, hL2, hWs2, hS2⟩ := hrel
        have hkj : k < j := by have := hj.out; omega
        have hjn : j ≤ n := by have := hj.out; omega
        have c0 : wr.cell? ⟨w.heap.size, 0, none⟩ = some (.int .i64 d) := hL2.out.cell 0
        have c1 : wr.cell? ⟨w.heap.size, 1, none⟩ = some (.slice A n c) := hL2.out.cell 1
        go_wp2_with fail
        refine (bodyCount_any _ _ _ _ _).mono ?_
        rintro e W2 ⟨rfl, b2⟩
        have hL3 := Lib.hid (hL2.out.kept b2 hL2.out.inside)
        have hWs3 := Lib.hid (hWs2.out.kept b2)
        have hB3 := Lib.hid (hB2.out.trans (b2.mono hB2.out.size))
        clear hL2 hWs2 hB2 b2 c0 c1
        by_cases hlt2 : j < n
        · go_wp2_with fail
          refine (wasteOne_any g1 (g1 + 1) k j d n c c2 dd A A2 vs ss _ hWs3.out (HP.out.kept hB3.out) HO.out HE.out HD.out hlt hlt2).mono ?_
          rintro e W3 ⟨rfl, b3⟩
          have hL4 := Lib.hid (hL3.out.kept b3 hL3.out.inside)
          have hWs4 := Lib.hid (hWs3.out.kept b3)
          have hB4 := Lib.hid (hB3.out.trans (b3.mono hB3.out.size))
          clear hL3 hWs3 hB3 b3
          go_wp2_with fail
          refine (wasteOne_any g1 (g1 + 1) t1 t2 d n c c2 dd A A2 vs ss _ hWs4.out (HP.out.kept hB4.out) HO.out HE.out HD.out ht1 ht2).mono ?_
          rintro e W4 ⟨rfl, b4⟩
          have hL5 := Lib.hid (hL4.out.kept b4 hL4.out.inside)
          have hWs5 := Lib.hid (hWs4.out.kept b4)
          have hB5 := Lib.hid (hB4.out.trans (b4.mono hB4.out.size))
          clear hL4 hWs4 hB4 b4
          obtain ⟨V, hV⟩ : ∃ V, V = wasteAt vs dd k j := ⟨_, rfl⟩
          obtain ⟨M, hM⟩ : ∃ M, M = wasteAt vs dd t1 t2 := ⟨_, rfl⟩
          rw [← hV, ← hM]
          by_cases hgt : M < V
          · have HN : Hid (seedIn vs dd (s1, s2) k (q + 1) = (k, j)) := by
              show stepS _ _ (seedIn _ _ _ _ _) _ _ = _
              rw [hS2.out, ← hj.out]; exact stepS_yes (by rw [← hV, ← hM]; exact hgt)
            clear hV hM
            go_wp2
            go_roundw
            case rel => exact ⟨q + 1, j + 1, k, j, by have := hj.out; omega, Lib.hid (by have := hj.out; omega), by go_num, rfl, rfl, hlt, hlt2, hB5, hL5, hWs5, HN⟩
            case measure => simp [intOf]; omega
          · have HN : Hid (seedIn vs dd (s1, s2) k (q + 1) = (t1, t2)) := by
              show stepS _ _ (seedIn _ _ _ _ _) _ _ = _
              rw [hS2.out, ← hj.out]; exact stepS_no (by rw [← hV, ← hM]; exact hgt)
            clear hV hM
            go_wp2
            go_roundw
            case rel => exact ⟨q + 1, j + 1, t1, t2, by have := hj.out; omega, Lib.hid (by have := hj.out; omega), by go_num, rfl, rfl, ht1, ht2, hB5, hL5, hWs5, HN⟩
            case measure => simp [intOf]; omega
        · have hqn : q = n - (k + 1) := by have := hj.out; omega
          have HN : Hid (seedOut vs dd n (k + 1) = (t1, t2)) := by
            show seedIn _ _ (seedOut _ _ _ _) _ _ = _
            rw [hS.out, ← hqn]; exact hS2.out
          clear hqn
          go_wp2
          go_roundw
          case rel => exact ⟨k + 1, t1, t2, by omega, by go_num, rfl, rfl, ht1, ht2, hB3, hL3, hWs3, HN⟩
          case measure => simp [intOf]; omega
    · have hkn : k = n := by omega
      subst hkn
      go_wp2
      go_ret2
      exact ⟨ret_twoN (int_valS (by rw [hS.out])) (int_valS (by rw [hS.out])), hB.out⟩

end Go.Proofs.Ytbnlgmcjklfcoaa
