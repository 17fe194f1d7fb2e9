/- The walks of slices.MinFunc and slices.Index at bids, and of impl.cheapest. -/
import Derived.Test.YtbnlgmcjklfcoaaCheapest
namespace Go.Proofs.Ytbnlgmcjklfcoaa
open Go.RowKit

def bidCells (x : Int × Int) : List Value := [.int .i64 x.1, .int .i64 x.2]
/-- The slice '.slice A n c' reads as the bids ks. -/
def Bids (w : World) (A : Option Addr) (n : Nat) (ks : List (Int × Int)) : Prop :=
  ks.length = n ∧ (0 < n → ∃ b o, A = some ⟨b, o, none⟩ ∧ b < w.heap.size ∧ ∀ (k : Nat) (x : Int × Int), ks[k]? = some x → w.cell? ⟨b, o + k * 2, none⟩ = some (.int .i64 x.1) ∧ w.cell? ⟨b, o + k * 2 + 1, none⟩ = some (.int .i64 x.2))
theorem Bids.kept {w w' : World} {n : Nat} {A : Option Addr} {ks : List (Int × Int)} (h : Bids w A n ks) (hb : Below w.heap.size w w') : Bids w' A n ks := by
  obtain ⟨hl, hr⟩ := h
  refine ⟨hl, fun hn => ?_⟩
  obtain ⟨b, o, e, h2, h3⟩ := hr hn
  exact ⟨b, o, e, Nat.lt_of_lt_of_le h2 hb.size, fun k x hk => ⟨(hb.cell (p := ⟨b, o + k * 2, none⟩) h2).trans (h3 k x hk).1, (hb.cell (p := ⟨b, o + k * 2 + 1, none⟩) h2).trans (h3 k x hk).2⟩⟩
theorem Bids.cellAt {w : World} {n k : Nat} {A : Option Addr} {ks : List (Int × Int)} (h : Bids w A n ks) (hk : k < n) :
    ∃ b o u v, A = some ⟨b, o, none⟩ ∧ b < w.heap.size ∧ w.cell? ⟨b, o + k * 2, none⟩ = some (.int .i64 u) ∧ w.cell? ⟨b, o + k * 2 + 1, none⟩ = some (.int .i64 v) ∧ Hid (ks.getD k (0, 0) = (u, v)) := by
  obtain ⟨hl, hr⟩ := h
  obtain ⟨b, o, e, h2, h3⟩ := hr (by omega)
  have hx : ks[k]? = some (ks[k]'(by omega)) := List.getElem?_eq_getElem (by omega)
  obtain ⟨c1, c2⟩ := h3 k _ hx
  exact ⟨b, o, _, _, e, h2, c1, c2, by show ks.getD k (0, 0) = _; simp [List.getD, hx]⟩

set_option maxRecDepth 100000 in
set_option maxHeartbeats 6400000 in
theorem minFunc_any (n c : Nat) (A : Option Addr) (ks : List (Int × Int)) (w : World) (hp : Bids w A n ks) (h0 : 0 < n) (hn : n ≤ maxLen) :
    Calls Try.prog 167 #[.slice A n c, .func (.func 168) #[] #[]] w fun e w' => e = .returned (.agg #[.int .i64 (ks.getD (bestTo ks n) (0, 0)).1, .int .i64 (ks.getD (bestTo ks n) (0, 0)).2]) ∧ Below w.heap.size w w' := by
  have HP := Lib.hid hp
  clear hp
  unfold maxLen at hn
  obtain ⟨b, o, u0, v0, rfl, hb, d0, d1, hx0⟩ := HP.out.cellAt h0
  have H1 : Hid (ks.getD (bestTo ks 1) (0, 0) = (u0, v0)) := by show _ = _; rw [bestTo_one]; exact hx0.out
  have hn1 : ¬ (n : Int) < 1 := by omega
  have B := Lib.hid (below_alloc w (.cells #[.int .i64 0, .int .i64 0] 194))
  have L_r := Lib.hid ((Lies.new w 194 #[.int .i64 0, .int .i64 0]).alloc (.cells #[.int .i64 u0, .int .i64 v0] 194))
  have L_m := Lib.hid (Lies.new (w.alloc (.cells #[.int .i64 0, .int .i64 0] 194)) 194 #[.int .i64 u0, .int .i64 v0])
  have x0 : (w.alloc (.cells #[.int .i64 0, .int .i64 0] 194)).cell? ⟨b, o, none⟩ = some (.int .i64 u0) := (B.out.cell (p := ⟨b, o, none⟩) hb).trans (by simpa using d0)
  have x1 : (w.alloc (.cells #[.int .i64 0, .int .i64 0] 194)).cell? ⟨b, o + 1, none⟩ = some (.int .i64 v0) := (B.out.cell (p := ⟨b, o + 1, none⟩) hb).trans (by simpa using d1)
  replace B := Lib.hid (B.out.alloc B.out.size (.cells #[.int .i64 u0, .int .i64 v0] 194))
  simp only [World.size_alloc] at L_m
  clear d0 d1 hx0
  go_enter Try.func167, Try.ntmps167
  go_wp2
  clear x0 x1
  go_loopw [6] (fun i wr => ∃ (k : Nat) (p q : Int), 1 ≤ k ∧ k ≤ n ∧ i = .int .i64 k ∧ Hid (Below w.heap.size w wr) ∧ Hid (Lies wr w.heap.size 194 #[.int .i64 0, .int .i64 0]) ∧ Hid (Lies wr (w.heap.size + 1) 194 #[.int .i64 p, .int .i64 q]) ∧ Hid (ks.getD (bestTo ks k) (0, 0) = (p, q))) (fun i _ => n - (intOf i).toNat)
  case atStart => exact ⟨1, u0, v0, Nat.le_refl _, h0, rfl, B, L_r, L_m, H1⟩
  case round =>
    obtain ⟨k, p, q, hk1, hk', rfl, hB, hR, hM, hK⟩ := hrel
    by_cases hlt : k < n
    · obtain ⟨b', o', u, v, hA, hb', d0, d1, hx⟩ := HP.out.cellAt hlt
      injection hA with hA
      injection hA with hA1 hA2
      subst hA1 hA2
      have e0 : wr.cell? ⟨b, o + k * 2, none⟩ = some (.int .i64 u) := (hB.out.cell (p := ⟨b, o + k * 2, none⟩) hb).trans d0
      have e1 : wr.cell? ⟨b, o + k * 2 + 1, none⟩ = some (.int .i64 v) := (hB.out.cell (p := ⟨b, o + k * 2 + 1, none⟩) hb).trans d1
      have m0 : wr.cell? ⟨w.heap.size + 1, 0, none⟩ = some (.int .i64 p) := hM.out.cell 0
      have m1 : wr.cell? ⟨w.heap.size + 1, 1, none⟩ = some (.int .i64 q) := hM.out.cell 1
      have hbW := Nat.lt_of_lt_of_le hb hB.out.size
      have K0 : wr.cell? ⟨b, o + k * 2, none⟩ = some (.int .i64 u) ∧ wr.cell? ⟨b, o + k * 2 + 1, none⟩ = some (.int .i64 v) ∧ wr.cell? ⟨w.heap.size + 1, 0, none⟩ = some (.int .i64 p) ∧ wr.cell? ⟨w.heap.size + 1, 1, none⟩ = some (.int .i64 q) := ⟨e0, e1, m0, m1⟩
      clear e0 e1 m0 m1 d0 d1
      cases hl : ltK (u, v) (p, q)
      · have hq : ¬ cmpK (u, v) (p, q) < 0 := fun h => by rw [cmpK_lt.1 h] at hl; exact absurd hl (by decide)
        have HN : Hid (ks.getD (bestTo ks (k + 1)) (0, 0) = (p, q)) := by show _ = _; rw [bestTo_no (by rw [hx.out, hK.out]; exact hl)]; exact hK.out
        clear hl hK hx
        generalize hcm : cmpK (u, v) (p, q) = cm at *
        go_wp2
        go_region_held3 (fun w' => w'.cell? ⟨b, o + k * 2, none⟩ = some (.int .i64 u) ∧ w'.cell? ⟨b, o + k * 2 + 1, none⟩ = some (.int .i64 v) ∧ w'.cell? ⟨w.heap.size + 1, 0, none⟩ = some (.int .i64 p) ∧ w'.cell? ⟨w.heap.size + 1, 1, none⟩ = some (.int .i64 q))
          (first | (simp [go_sem, K0]; done) | with_reducible exact K1 | (simp [go_sem, K1]; done))
          (first
            | (go_at_call 168; refine (bidCmp_any u v p q _).mono ?_
               rintro e W1 ⟨rfl, b1d⟩
               have b1 := below_drawn b1d
               have K1 : W1.cell? ⟨b, o + k * 2, none⟩ = some (.int .i64 u) ∧ W1.cell? ⟨b, o + k * 2 + 1, none⟩ = some (.int .i64 v) ∧ W1.cell? ⟨w.heap.size + 1, 0, none⟩ = some (.int .i64 p) ∧ W1.cell? ⟨w.heap.size + 1, 1, none⟩ = some (.int .i64 q) := ⟨(b1.cell (p := ⟨b, o + k * 2, none⟩) hbW).trans K0.1, (b1.cell (p := ⟨b, o + k * 2 + 1, none⟩) hbW).trans K0.2.1, (hM.out.kept b1 hM.out.inside).cell 0, (hM.out.kept b1 hM.out.inside).cell 1⟩
               rw [hcm]
               clear b1d))
        clear K0 K1
        have hB2 := Lib.hid (hB.out.trans (b1.mono hB.out.size))
        have hR2 := Lib.hid (hR.out.kept b1 hR.out.inside)
        have hM2 := Lib.hid (hM.out.kept b1 hM.out.inside)
        clear hB hR hM b1
        go_wp2
        go_roundw
        case rel => exact ⟨k + 1, p, q, by omega, by omega, by go_num, hB2, hR2, hM2, HN⟩
        case measure => simp [intOf]; omega
      · have hq : cmpK (u, v) (p, q) < 0 := cmpK_lt.2 hl
        have HN : Hid (ks.getD (bestTo ks (k + 1)) (0, 0) = (u, v)) := by show _ = _; rw [bestTo_yes (by rw [hx.out, hK.out]; exact hl)]; exact hx.out
        clear hl hK hx
        generalize hcm : cmpK (u, v) (p, q) = cm at *
        go_wp2
        go_region_held3 (fun w' => w'.cell? ⟨b, o + k * 2, none⟩ = some (.int .i64 u) ∧ w'.cell? ⟨b, o + k * 2 + 1, none⟩ = some (.int .i64 v) ∧ w'.cell? ⟨w.heap.size + 1, 0, none⟩ = some (.int .i64 p) ∧ w'.cell? ⟨w.heap.size + 1, 1, none⟩ = some (.int .i64 q))
          (first | (simp [go_sem, K0]; done) | with_reducible exact K1 | (simp [go_sem, K1]; done))
          (first
            | (go_at_call 168; refine (bidCmp_any u v p q _).mono ?_
               rintro e W1 ⟨rfl, b1d⟩
               have b1 := below_drawn b1d
               have K1 : W1.cell? ⟨b, o + k * 2, none⟩ = some (.int .i64 u) ∧ W1.cell? ⟨b, o + k * 2 + 1, none⟩ = some (.int .i64 v) ∧ W1.cell? ⟨w.heap.size + 1, 0, none⟩ = some (.int .i64 p) ∧ W1.cell? ⟨w.heap.size + 1, 1, none⟩ = some (.int .i64 q) := ⟨(b1.cell (p := ⟨b, o + k * 2, none⟩) hbW).trans K0.1, (b1.cell (p := ⟨b, o + k * 2 + 1, none⟩) hbW).trans K0.2.1, (hM.out.kept b1 hM.out.inside).cell 0, (hM.out.kept b1 hM.out.inside).cell 1⟩
               rw [hcm]
               clear b1d))
        have hB2 := Lib.hid (hB.out.trans (b1.mono hB.out.size))
        have hR2 := Lib.hid (hR.out.kept b1 hR.out.inside)
        have hM2 := Lib.hid (hM.out.kept b1 hM.out.inside)
        have e0 := K1.1
        have e1 := K1.2.1
        have m0 := K1.2.2.1
        have m1 := K1.2.2.2
        have n0 : W1.frozen? ⟨w.heap.size + 1, 0, none⟩ = false := hM2.out.thawed 0
        have n1 : W1.frozen? ⟨w.heap.size + 1, 1, none⟩ = false := hM2.out.thawed 1
        clear hB hR hM b1 K0 K1
        go_wp2
        go_roundw
        case rel =>
          refine ⟨k + 1, u, v, by omega, by omega, by go_num, Lib.hid ((hB2.out.setCell (Nat.le_succ _) _).setCell (Nat.le_succ _) _), Lib.hid ((hR2.out.far (by show w.heap.size ≠ w.heap.size + 1; omega) _).far (by show w.heap.size ≠ w.heap.size + 1; omega) _), ?_, HN⟩
          exact Lib.hid ((hM2.out.set 0 _).set 1 _)
        case measure => simp [intOf]; omega
    · have hkn : k = n := by omega
      subst hkn
      have z0 : wr.cell? ⟨w.heap.size, 0, none⟩ = some (.int .i64 0) := hR.out.cell 0
      have z1 : wr.cell? ⟨w.heap.size, 1, none⟩ = some (.int .i64 0) := hR.out.cell 1
      have f0 : wr.frozen? ⟨w.heap.size, 0, none⟩ = false := hR.out.thawed 0
      have f1 : wr.frozen? ⟨w.heap.size, 1, none⟩ = false := hR.out.thawed 1
      have m0 : wr.cell? ⟨w.heap.size + 1, 0, none⟩ = some (.int .i64 p) := hM.out.cell 0
      have m1 : wr.cell? ⟨w.heap.size + 1, 1, none⟩ = some (.int .i64 q) := hM.out.cell 1
      go_wp2
      refine bodyPost_ret (v := .agg #[.int .i64 p, .int .i64 q]) (by simp [results, Try.results167, go_sem, z0, z1]) rfl ⟨by rw [hK.out], ?_⟩
      exact (hB.out.setCell (Nat.le_refl _) _).setCell (Nat.le_refl _) _

set_option maxRecDepth 100000 in
set_option maxHeartbeats 3200000 in
theorem indexBid_any (p q : Int) (n c r : Nat) (A : Option Addr) (ks : List (Int × Int)) (w : World) (hp : Bids w A n ks) (hn : n ≤ maxLen) (hr : r < n) (hx : ks.getD r (0, 0) = (p, q)) (hf : ∀ j, j < r → ks.getD j (0, 0) ≠ (p, q)) :
    Calls Try.prog 169 #[.slice A n c, .agg #[.int .i64 p, .int .i64 q]] w fun e w' => e = .returned (.int .i64 (r : Int)) ∧ Below w.heap.size w w' := by
  have HP := Lib.hid hp
  have HX := Lib.hid hx
  have HF := Lib.hid hf
  clear hp hx hf
  unfold maxLen at hn
  have B := Lib.hid (below_alloc w (.cells #[.int .i64 p, .int .i64 q] 194))
  have L_v := Lib.hid (Lies.new w 194 #[.int .i64 p, .int .i64 q])
  go_enter Try.func169, Try.ntmps169
  go_wp2
  go_loopw [8] (fun i wr => ∃ k : Nat, k ≤ r ∧ i = .int .i64 k ∧ Hid (Below w.heap.size w wr) ∧ Hid (Lies wr w.heap.size 194 #[.int .i64 p, .int .i64 q])) (fun i _ => n - (intOf i).toNat)
  case atStart => exact ⟨0, Nat.zero_le _, rfl, B, L_v⟩
  case round =>
    obtain ⟨k, hk', rfl, hB, hV⟩ := hrel
    have hlt : k < n := by omega
    obtain ⟨b, o, u, v, rfl, hb, d0, d1, hx⟩ := HP.out.cellAt hlt
    have e0 : wr.cell? ⟨b, o + k * 2, none⟩ = some (.int .i64 u) := (hB.out.cell (p := ⟨b, o + k * 2, none⟩) hb).trans d0
    have e1 : wr.cell? ⟨b, o + k * 2 + 1, none⟩ = some (.int .i64 v) := (hB.out.cell (p := ⟨b, o + k * 2 + 1, none⟩) hb).trans d1
    have m0 : wr.cell? ⟨w.heap.size, 0, none⟩ = some (.int .i64 p) := hV.out.cell 0
    have m1 : wr.cell? ⟨w.heap.size, 1, none⟩ = some (.int .i64 q) := hV.out.cell 1
    clear d0 d1
    by_cases hkr : k = r
    · subst hkr
      have he := hx.out.symm.trans HX.out
      injection he with he1 he2
      subst he1 he2
      go_wp2
      go_quiet (fail)
      go_wp2
      go_ret
      exact ⟨rfl, below_draws hB.out _⟩
    · have hne := HF.out k (by omega)
      rw [hx.out] at hne
      have hk1 : k + 1 ≤ r := by omega
      by_cases hpu : p = u
      · subst hpu
        have hqv : (q == v) = false := by
          have : q ≠ v := fun e => hne (by rw [e])
          simpa using this
        clear hne
        go_wp2
        go_quiet (fail)
        go_wp2
        go_roundw
        case rel => exact ⟨k + 1, by omega, by go_num, below_draws hB.out _, hV.out.draws _⟩
        case measure => simp [intOf]; omega
      · have hpu1 : (p == u) = false := by simpa using hpu
        clear hne hpu
        go_wp2
        go_quiet (fail)
        go_wp2
        go_roundw
        case rel => exact ⟨k + 1, by omega, by go_num, below_draws hB.out _, hV.out.draws _⟩
        case measure => simp [intOf]; omega

set_option maxHeartbeats 1600000 in
theorem cheapest_any (n c : Nat) (A : Option Addr) (ks : List (Int × Int)) (w : World) (hp : Bids w A n ks) (h0 : 0 < n) (hn : n ≤ maxLen) :
    Calls Try.prog 136 #[.slice A n c] w fun e w' => e = .returned (.int .i64 (bestTo ks n : Nat)) ∧ Below w.heap.size w w' := by
  have HP := Lib.hid hp
  clear hp
  go_enter Try.func136, Try.ntmps136
  go_wp2_with fail
  refine (minFunc_any _ _ _ ks _ HP.out h0 hn).mono ?_
  rintro e W1 ⟨rfl, b1⟩
  have hlb := bestTo_lt ks n h0
  have HF : Hid (∀ j, j < bestTo ks n → ks.getD j (0, 0) ≠ ks.getD (bestTo ks n) (0, 0)) := fun j hj => bestTo_first hj
  obtain ⟨p, hp⟩ : ∃ p, p = (ks.getD (bestTo ks n) (0, 0)).1 := ⟨_, rfl⟩
  obtain ⟨q, hq⟩ : ∃ q, q = (ks.getD (bestTo ks n) (0, 0)).2 := ⟨_, rfl⟩
  have HX : Hid (ks.getD (bestTo ks n) (0, 0) = (p, q)) := by show _ = _; rw [hp, hq]
  rw [← hp, ← hq]
  rw [HX.out] at HF
  clear hp hq
  have B := Lib.hid (b1.alloc b1.size (.cells #[.int .i64 p, .int .i64 q] 194))
  have L_m := Lib.hid (Lies.new W1 194 #[.int .i64 p, .int .i64 q])
  clear b1
  go_wp2_with fail
  refine (indexBid_any p q _ _ (bestTo ks n) _ ks _ (HP.out.kept B.out) hn hlb HX.out HF.out).mono ?_
  rintro e W2 ⟨rfl, b2⟩
  replace B := Lib.hid (B.out.trans (b2.mono B.out.size))
  clear b2
  go_wp2
  go_ret
  exact ⟨rfl, B.out⟩

end Go.Proofs.Ytbnlgmcjklfcoaa
