/- The walks of the laws' own helpers on a slice of numbers: laws.toInt64S (a copy in new memory), laws.eqInt64S, laws.szInt64S. For every slice that reads as numbers. -/
import Derived.Test.YtpgoildfjkokiabPoints
namespace Go.Proofs.Ytpgoildfjkokiab
open Go.RowKit

/-- Block g is a row of the call's own that holds just the numbers xs. -/
def Own (w : World) (g n : Nat) (xs : List Int) : Prop := xs.length = n ∧ w.rowIs g 2 n (fun j => .int .i64 (xs.getD j 0))

theorem Own.ints {w : World} {g n : Nat} {xs : List Int} (h : Own w g n xs) {lo : Nat} (hlo : lo ≤ g) : Ints w lo (some ⟨g, 0, none⟩) n xs := by
  obtain ⟨hl, hr⟩ := h
  refine ⟨hl, fun _ => ⟨g, 0, rfl, hlo, hr.lt, fun k x hk => ?_⟩⟩
  have hkn : k < n := by rw [← hl]; exact (List.getElem?_eq_some_iff.1 hk).1
  rw [Nat.zero_add, hr.cell hkn]
  simp [hk]

theorem Own.kept {w w' : World} {g n : Nat} {xs : List Int} (h : Own w g n xs) (hb : Below w.heap.size w w') : Own w' g n xs := ⟨h.1, h.2.of_block (hb.block g h.2.lt)⟩

theorem info_i64 : (Try.prog.info? 2).map (fun i => (i.zero, i.size, i.bytes)) = some (some (.int .i64 0), 1, 8) := by kernel_rfl

/-- What is copied behind k rounds. -/
def half (xs : List Int) (k j : Nat) : Value := .int .i64 (if j < k then xs.getD j 0 else 0)

theorem half_next {xs : List Int} {k : Nat} {x : Int} (hx : xs[k]? = some x) (j : Nat) : (if j = k then .int .i64 x else half xs k j) = half xs (k + 1) j := by
  unfold half
  by_cases h : j = k
  · subst h; simp [hx]
  · rw [if_neg h]
    by_cases h2 : j < k
    · rw [if_pos h2, if_pos (by omega)]
    · rw [if_neg h2, if_neg (by omega)]

set_option maxHeartbeats 400000 in
theorem toInt64S_any (lo n c : Nat) (A : Option Addr) (xs : List Int) (w : World) (hx : Ints w lo A n xs) (hn : n ≤ 1048576) :
    Calls Try.prog 42 #[.slice A n c] w fun e w' => e = .returned (.slice (some ⟨w.heap.size, 0, none⟩) n n) ∧ Own w' w.heap.size n xs ∧ Below w.heap.size w w' := by
  have HL := Lib.hid hx.1
  have hmk := fun W => run_make_row' (P := Try.prog) 24 2 (.int .i64 0) 8 Try.underlying24 info_i64 rfl .i64 .i64 n (by omega) (by omega) W
  go_enter Try.func42, Try.ntmps42
  go_wp2
  clear hmk
  go_loopw [4] (fun i wr => ∃ k : Nat, k ≤ n ∧ i = .int .i64 k ∧ Below w.heap.size w wr ∧ Hid (wr.rowIs w.heap.size 2 n (half xs k))) (fun i _ => n - (intOf i).toNat)
  case atStart => exact ⟨0, Nat.zero_le _, rfl, below_alloc _ _, (World.rowIs_made w _ n _).congr fun i _ => by simp [half]⟩
  case round =>
    obtain ⟨k, hk, rfl, hb, hrow⟩ := hrel
    by_cases hlt : k < n
    · obtain ⟨b, o, x, rfl, _, hbw, hc, hxk⟩ := hx.cellAt hlt
      have hc' : wr.cell? ⟨b, o + k, none⟩ = some (.int .i64 x) := (hb.cell (p := ⟨b, o + k, none⟩) hbw).trans hc
      have hg : wr.cell? ⟨w.heap.size, k, none⟩ = some (half xs k k) := hrow.out.cell hlt
      have hf : wr.frozen? ⟨w.heap.size, k, none⟩ = false := hrow.out.frozen k
      have hrow' := Lib.hid ((hrow.out.set k (.int .i64 x)).congr fun j _ => half_next hxk.out j)
      have hb' := hb.setCell (p := ⟨w.heap.size, k, none⟩) (Nat.le_refl _) (.int .i64 x)
      clear hb hx hrow hc
      go_wp2
      go_roundw
      case rel => exact ⟨k + 1, by omega, by go_num, hb', hrow'⟩
      case measure => simp [intOf]; omega
    · have hO : Own wr w.heap.size n xs := ⟨HL.out, hrow.out.congr fun i hi => by simp [half, show i < k by omega]⟩
      go_wp2
      go_ret
      exact ⟨rfl, hO, hb⟩

theorem toInt64S_new (lo n c : Nat) (A : Option Addr) (xs : List Int) (w : World) (hx : Ints w lo A n xs) (hn : n ≤ 1048576) :
    Calls Try.prog 42 #[.slice A n c] w fun e w' => ∃ g, e = .returned (.slice (some ⟨g, 0, none⟩) n n) ∧ w.heap.size ≤ g ∧ Own w' g n xs ∧ Below w.heap.size w w' :=
  (toInt64S_any lo n c A xs w hx hn).mono fun _ _ h => ⟨_, h.1, Nat.le_refl _, h.2⟩

theorem take_next {xs ys : List Int} {k : Nat} {x : Int} (hx : xs[k]? = some x) (hy : ys[k]? = some x) (h : xs.take k = ys.take k) : xs.take (k + 1) = ys.take (k + 1) := by
  rw [List.take_add_one, List.take_add_one, hx, hy, h]
theorem ne_at {xs ys : List Int} {k : Nat} {x y : Int} (hx : xs[k]? = some x) (hy : ys[k]? = some y) (h : x ≠ y) : xs ≠ ys := by
  rintro rfl
  rw [hx] at hy
  injection hy with e
  exact h e

set_option maxHeartbeats 400000 in
theorem eqInt64S_any (lo n c lo' m c' : Nat) (A A' : Option Addr) (xs ys : List Int) (w : World) (hx : Ints w lo A n xs) (hy : Ints w lo' A' m ys) (hn : n ≤ maxLen) :
    Calls Try.prog 46 #[.slice A n c, .slice A' m c'] w fun e w' => e = .returned (.bool (decide (xs = ys))) ∧ ∃ q, w' = w.drewN q := by
  unfold maxLen at hn
  have HL := Lib.hid hx.1
  have HM := Lib.hid hy.1
  by_cases hnm : n = m
  · subst hnm
    go_enter Try.func46, Try.ntmps46
    go_wp2
    go_loopw [5] (fun i wr => ∃ k q : Nat, k ≤ n ∧ i = .int .i64 k ∧ wr = w.drewN q ∧ Hid (xs.take k = ys.take k)) (fun i _ => n - (intOf i).toNat)
    case atStart => exact ⟨0, 0, Nat.zero_le _, rfl, rfl, rfl⟩
    case round =>
      obtain ⟨k, q, hk, rfl, rfl, heq⟩ := hrel
      by_cases hlt : k < n
      · obtain ⟨b, o, x, rfl, _, hbw, hc, hxk⟩ := hx.cellAt hlt
        obtain ⟨b', o', y, rfl, _, hbw', hc', hyk⟩ := hy.cellAt hlt
        clear hx hy
        by_cases hxy : x = y
        · subst hxy
          have HT := Lib.hid (take_next hxk.out hyk.out heq.out)
          have h1 : (x != x) = false := by simp
          go_wp2
          go_quiet (fail)
          go_wp2
          go_roundw
          case rel => exact ⟨k + 1, q + nq, by omega, by go_num, by simp, HT⟩
          case measure => simp [intOf]; omega
        · have HT := Lib.hid (ne_at hxk.out hyk.out hxy)
          have h1 : (x != y) = true := by simpa using hxy
          clear hxy
          go_wp2
          go_quiet (fail)
          go_wp2
          go_ret
          exact ⟨ret_bool (decide_eq_false HT.out).symm, _, World.drewN_drewN _ _ _⟩
      · have HT : Hid (xs = ys) := by
          have h := heq.out
          rwa [List.take_of_length_le (by rw [HL.out]; omega), List.take_of_length_le (by rw [HM.out]; omega)] at h
        go_wp2
        go_ret
        exact ⟨ret_bool (decide_eq_true HT.out).symm, _, rfl⟩
  · have h1 : ((n : Int) != (m : Int)) = true := by rw [bne_iff_ne]; omega
    have HT := Lib.hid (show xs ≠ ys from fun e => hnm (by rw [← HL.out, ← HM.out, e]))
    clear hnm
    go_enter Try.func46, Try.ntmps46
    go_wp2
    go_ret
    exact ⟨ret_bool (decide_eq_false HT.out).symm, 0, rfl⟩

theorem eqInt64S_is (v : Bool) (lo n c lo' m c' : Nat) (A A' : Option Addr) (xs ys : List Int) (w : World) (hv : decide (xs = ys) = v) (hx : Ints w lo A n xs) (hy : Ints w lo' A' m ys) (hn : n ≤ maxLen) :
    Calls Try.prog 46 #[.slice A n c, .slice A' m c'] w fun e w' => e = .returned (.bool v) ∧ ∃ q, w' = w.drewN q := hv ▸ eqInt64S_any lo n c lo' m c' A A' xs ys w hx hy hn

end Go.Proofs.Ytpgoildfjkokiab
