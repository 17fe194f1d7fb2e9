/- The walks of spec.RectFault and impl.RectFault, and of laws.toRect, laws.eqRect, laws.szRect: for every box whose two points read as numbers. -/
import Derived.Test.YtpgoildfjkokiabCopies
namespace Go.Proofs.Ytpgoildfjkokiab
open Go.RowKit

/-- In each dimension Low is not above High. -/
def leAll (xs ys : List Int) : Bool := (xs.zip ys).all fun p => decide (p.1 ≤ p.2)
/-- What is wrong with a box. -/
def rf (xs ys : List Int) (d : Int) : Int := if pf xs d ≠ 0 then pf xs d else if pf ys d ≠ 0 then pf ys d else if leAll xs ys then 0 else 1

theorem pf_zero {xs : List Int} {d : Int} (h : pf xs d = 0) : (2 ≤ d ∧ d ≤ 3) ∧ (xs.length : Int) = d ∧ allIn (-1000) 1000 xs = true := by
  unfold pf at h
  by_cases h1 : 2 ≤ d ∧ d ≤ 3
  · rw [if_pos h1] at h
    by_cases h2 : (xs.length : Int) = d
    · rw [if_pos h2] at h
      by_cases h3 : allIn (-1000) 1000 xs = true
      · exact ⟨h1, h2, h3⟩
      · rw [if_neg h3] at h; omega
    · rw [if_neg h2] at h; omega
  · rw [if_neg h1] at h; omega

theorem zip_at {xs ys : List Int} {k : Nat} {x y : Int} (hx : xs[k]? = some x) (hy : ys[k]? = some y) : (xs.zip ys)[k]? = some (x, y) := by
  rw [List.getElem?_zip_eq_some]; exact ⟨hx, hy⟩

theorem leAll_next {xs ys : List Int} {k : Nat} {x y : Int} (hx : xs[k]? = some x) (hy : ys[k]? = some y) (h : (((xs.zip ys).take k).all fun p => decide (p.1 ≤ p.2)) = true) (hxy : x ≤ y) :
    (((xs.zip ys).take (k + 1)).all fun p => decide (p.1 ≤ p.2)) = true := by
  rw [List.take_add_one, zip_at hx hy, List.all_append, h]
  simpa using hxy
theorem leAll_false {xs ys : List Int} {k : Nat} {x y : Int} (hx : xs[k]? = some x) (hy : ys[k]? = some y) (hxy : ¬ x ≤ y) : leAll xs ys = false := by
  unfold leAll
  rw [List.all_eq_false]
  exact ⟨(x, y), List.mem_of_getElem? (zip_at hx hy), by simpa using hxy⟩

set_option maxHeartbeats 800000 in
theorem specRectFault_any (d : Int) (lo n c lo' n' c' : Nat) (A A' : Option Addr) (xs ys : List Int) (w : World) (hx : Ints w lo A n xs) (hy : Ints w lo' A' n' ys) (hn : n ≤ maxLen) (hn' : n' ≤ maxLen) :
    Calls Try.prog 40 #[.agg #[.slice A n c, .slice A' n' c'], .int .i64 d] w fun e w' => e = .returned (.int .i64 (rf xs ys d)) ∧ Below w.heap.size w w' := by
  have HL := Lib.hid hx.1
  have HL' := Lib.hid hy.1
  have HX := Lib.hid (hx.kept (below_alloc w (.cells #[.slice A n c, .slice A' n' c'] 26)))
  have HY := Lib.hid (hy.kept (below_alloc w (.cells #[.slice A n c, .slice A' n' c'] 26)))
  clear hx hy
  by_cases h1 : pf xs d = 0
  · have hne1 : (pf xs d != 0) = false := by simp [h1]
    by_cases h2 : pf ys d = 0
    · have hne2 : (pf ys d != 0) = false := by simp [h2]
      have HR : Hid (rf xs ys d = if leAll xs ys then 0 else 1) := by show rf xs ys d = _; simp [rf, h1, h2]
      have hnn : (n : Int) = d := by rw [← HL.out]; exact (pf_zero h1).2.1
      have hnn' : (n' : Int) = d := by rw [← HL'.out]; exact (pf_zero h2).2.1
      have hnd : n = n' := by omega
      subst hnd
      have hn3 : n ≤ 3 := by have := (pf_zero h1).1; omega
      have H1 := Lib.hid h1
      have H2 := Lib.hid h2
      clear h1 h2 hnn hnn'
      go_enter Try.func40, Try.ntmps40
      go_wp2_with fail
      refine (specPointFault_any _ _ _ _ _ xs _ HX.out hn).mono ?_
      rintro e w' ⟨rfl, rfl⟩
      go_wp2_with fail
      refine (specPointFault_any _ _ _ _ _ ys _ HY.out hn').mono ?_
      rintro e w' ⟨rfl, rfl⟩
      go_wp2_with fail
      go_loopw [7] (fun i wr => ∃ k q : Nat, k ≤ n ∧ i = .int .i64 k ∧ wr = (w.alloc (.cells #[.slice A n c, .slice A' n c'] 26)).drewN q ∧ Hid ((((xs.zip ys).take k).all fun p => decide (p.1 ≤ p.2)) = true)) (fun i _ => n - (intOf i).toNat)
      case atStart => exact ⟨0, 0, Nat.zero_le _, rfl, rfl, rfl⟩
      case round =>
        obtain ⟨k, q, hk, rfl, rfl, heq⟩ := hrel
        by_cases hlt : k < n
        · obtain ⟨b, o, x, rfl, _, hbw, hc, hxk⟩ := HX.out.cellAt hlt
          obtain ⟨b', o', y, rfl, _, hbw', hc', hyk⟩ := HY.out.cellAt hlt
          by_cases hxy : x ≤ y
          · have HT := Lib.hid (leAll_next hxk.out hyk.out heq.out hxy)
            go_wp2
            go_quiet (fail)
            go_wp2
            go_roundw
            case rel => exact ⟨k + 1, q + nq, by omega, by go_num, by simp, HT⟩
            case measure => simp [intOf]; omega
          · have HT := Lib.hid (leAll_false hxk.out hyk.out hxy)
            go_wp2
            go_quiet (fail)
            go_wp2
            go_ret
            exact ⟨ret_i64 (by rw [HR.out, HT.out]; rfl), below_draws (below_draws (below_alloc _ _) _) _⟩
        · have HT : Hid (leAll xs ys = true) := by
            have h := heq.out
            rwa [List.take_of_length_le (by rw [List.length_zip, HL.out, HL'.out]; omega)] at h
          go_wp2
          go_ret
          exact ⟨ret_i64 (by rw [HR.out, HT.out]; rfl), below_draws (below_alloc _ _) _⟩
    · have hne2 : (pf ys d != 0) = true := by simpa using h2
      have HR : Hid (rf xs ys d = pf ys d) := by show rf xs ys d = _; simp [rf, h1, h2]
      clear h1 h2
      go_enter Try.func40, Try.ntmps40
      go_wp2_with fail
      refine (specPointFault_any _ _ _ _ _ xs _ HX.out hn).mono ?_
      rintro e w' ⟨rfl, rfl⟩
      go_wp2_with fail
      refine (specPointFault_any _ _ _ _ _ ys _ HY.out hn').mono ?_
      rintro e w' ⟨rfl, rfl⟩
      go_wp2
      go_ret
      exact ⟨ret_i64 HR.out.symm, below_alloc _ _⟩
  · have hne1 : (pf xs d != 0) = true := by simpa using h1
    have HR : Hid (rf xs ys d = pf xs d) := by show rf xs ys d = _; simp [rf, h1]
    clear h1
    go_enter Try.func40, Try.ntmps40
    go_wp2_with fail
    refine (specPointFault_any _ _ _ _ _ xs _ HX.out hn).mono ?_
    rintro e w' ⟨rfl, rfl⟩
    go_wp2
    go_ret
    exact ⟨ret_i64 HR.out.symm, below_alloc _ _⟩

set_option maxHeartbeats 800000 in
theorem implRectFault_any (d : Int) (lo n c lo' n' c' : Nat) (A A' : Option Addr) (xs ys : List Int) (w : World) (hx : Ints w lo A n xs) (hy : Ints w lo' A' n' ys) (hn : n ≤ maxLen) (hn' : n' ≤ maxLen) :
    Calls Try.prog 43 #[.agg #[.slice A n c, .slice A' n' c'], .int .i64 d] w fun e w' => e = .returned (.int .i64 (rf xs ys d)) ∧ Below w.heap.size w w' := by
  have HL := Lib.hid hx.1
  have HL' := Lib.hid hy.1
  have B0 := Lib.hid (below_alloc w (.cells #[.slice A n c, .slice A' n' c'] 26))
  have HX := Lib.hid (hx.kept B0.out)
  have HY := Lib.hid (hy.kept B0.out)
  clear hx hy
  by_cases h1 : pf xs d = 0
  · have hne1 : (pf xs d != 0) = false := by simp [h1]
    by_cases h2 : pf ys d = 0
    · have hne2 : (pf ys d != 0) = false := by simp [h2]
      have HR : Hid (rf xs ys d = if leAll xs ys then 0 else 1) := by show rf xs ys d = _; simp [rf, h1, h2]
      have hnn : (n : Int) = d := by rw [← HL.out]; exact (pf_zero h1).2.1
      have hnn' : (n' : Int) = d := by rw [← HL'.out]; exact (pf_zero h2).2.1
      have hnd : n = n' := by omega
      subst hnd
      have hn3 : n ≤ 3 := by have := (pf_zero h1).1; omega
      have H1 := Lib.hid h1
      have H2 := Lib.hid h2
      clear h1 h2 hnn hnn'
      go_enter Try.func43, Try.ntmps43
      go_wp2_with fail
      refine (implPointFault_any _ _ _ _ _ xs _ HX.out hn).mono ?_
      rintro e W1 ⟨rfl, b1⟩
      have B1 := Lib.hid b1
      clear b1
      have c0 : W1.cell? ⟨w.heap.size, 0, none⟩ = some (.slice A n c) := (B1.out.cell (p := ⟨w.heap.size, 0, none⟩) (by simp)).trans (cell_new w _ _ 0)
      have c1 : W1.cell? ⟨w.heap.size, 1, none⟩ = some (.slice A' n c') := (B1.out.cell (p := ⟨w.heap.size, 1, none⟩) (by simp)).trans (cell_new w _ _ 1)
      go_wp2_with fail
      refine (implPointFault_any _ _ _ _ _ ys _ (HY.out.kept B1.out) hn').mono ?_
      rintro e W2 ⟨rfl, b2⟩
      have B2 := Lib.hid b2
      clear b2
      have hsz : w.heap.size < W1.heap.size := by have := B1.out.size; simp at this; omega
      have d0 : W2.cell? ⟨w.heap.size, 0, none⟩ = some (.slice A n c) := (B2.out.cell (p := ⟨w.heap.size, 0, none⟩) hsz).trans c0
      have d1 : W2.cell? ⟨w.heap.size, 1, none⟩ = some (.slice A' n c') := (B2.out.cell (p := ⟨w.heap.size, 1, none⟩) hsz).trans c1
      have HX2 := Lib.hid ((HX.out.kept B1.out).kept B2.out)
      have HY2 := Lib.hid ((HY.out.kept B1.out).kept B2.out)
      have BE : Hid (Below w.heap.size w W2) := (B0.out.trans (B1.out.mono (by simp))).trans (B2.out.mono (by omega))
      clear c0 c1 B0 B1 B2 HX HY hsz
      go_wp2_with fail
      go_loopw [25] (fun i wr => ∃ k q : Nat, k ≤ n ∧ i = .int .i64 k ∧ wr = W2.drewN q ∧ Hid ((((xs.zip ys).take k).all fun p => decide (p.1 ≤ p.2)) = true)) (fun i _ => n - (intOf i).toNat)
      case atStart => exact ⟨0, 0, Nat.zero_le _, rfl, rfl, rfl⟩
      case round =>
        obtain ⟨k, q, hk, rfl, rfl, heq⟩ := hrel
        by_cases hlt : k < n
        · obtain ⟨b, o, x, rfl, _, hbw, hc, hxk⟩ := HX2.out.cellAt hlt
          obtain ⟨b', o', y, rfl, _, hbw', hc', hyk⟩ := HY2.out.cellAt hlt
          by_cases hxy : x ≤ y
          · have HT := Lib.hid (leAll_next hxk.out hyk.out heq.out hxy)
            go_wp2
            go_quiet (fail)
            go_wp2
            go_roundw
            case rel => exact ⟨k + 1, q + nq, by omega, by go_num, by simp, HT⟩
            case measure => simp [intOf]; omega
          · have HT := Lib.hid (leAll_false hxk.out hyk.out hxy)
            go_wp2
            go_quiet (fail)
            go_wp2
            go_ret
            exact ⟨ret_i64 (by rw [HR.out, HT.out]; rfl), below_draws (below_draws BE.out _) _⟩
        · have HT : Hid (leAll xs ys = true) := by
            have h := heq.out
            rwa [List.take_of_length_le (by rw [List.length_zip, HL.out, HL'.out]; omega)] at h
          go_wp2
          go_ret
          exact ⟨ret_i64 (by rw [HR.out, HT.out]; rfl), below_draws BE.out _⟩
    · have hne2 : (pf ys d != 0) = true := by simpa using h2
      have HR : Hid (rf xs ys d = pf ys d) := by show rf xs ys d = _; simp [rf, h1, h2]
      clear h1 h2
      go_enter Try.func43, Try.ntmps43
      go_wp2_with fail
      refine (implPointFault_any _ _ _ _ _ xs _ HX.out hn).mono ?_
      rintro e W1 ⟨rfl, b1⟩
      have B1 := Lib.hid b1
      clear b1
      have c1 : W1.cell? ⟨w.heap.size, 1, none⟩ = some (.slice A' n' c') := (B1.out.cell (p := ⟨w.heap.size, 1, none⟩) (by simp)).trans (cell_new w _ _ 1)
      go_wp2_with fail
      refine (implPointFault_any _ _ _ _ _ ys _ (HY.out.kept B1.out) hn').mono ?_
      rintro e W2 ⟨rfl, b2⟩
      have BE : Hid (Below w.heap.size w W2) := (B0.out.trans (B1.out.mono (by simp))).trans (b2.mono (by have := B1.out.size; simp at this; omega))
      clear b2
      go_wp2
      go_ret
      exact ⟨ret_i64 HR.out.symm, BE.out⟩
  · have hne1 : (pf xs d != 0) = true := by simpa using h1
    have HR : Hid (rf xs ys d = pf xs d) := by show rf xs ys d = _; simp [rf, h1]
    clear h1
    go_enter Try.func43, Try.ntmps43
    go_wp2_with fail
    refine (implPointFault_any _ _ _ _ _ xs _ HX.out hn).mono ?_
    rintro e W1 ⟨rfl, b1⟩
    have BE : Hid (Below w.heap.size w W1) := B0.out.trans (b1.mono (by simp))
    clear b1
    go_wp2
    go_ret
    exact ⟨ret_i64 HR.out.symm, BE.out⟩

/-! ### The laws' helpers on boxes -/

theorem szInt64S_no (n c : Nat) (A : Option Addr) (l : Int) (w : World) (h0 : 0 ≤ l) (h1 : l ≤ 1048576) (hn : n ≤ maxLen) (h : l < n) :
    Calls Try.prog 39 #[.slice A n c, .int .i64 l] w fun e w' => e = .returned (.int .i64 (-1)) ∧ w = w' := by
  unfold maxLen at hn
  go_enter Try.func39, Try.ntmps39
  go_wp2
  go_ret
  exact ⟨rfl, rfl⟩
theorem szInt64S_yes (n c : Nat) (A : Option Addr) (l : Int) (w : World) (h0 : 0 ≤ l) (h1 : l ≤ 1048576) (hn : n ≤ maxLen) (h : n ≤ l) :
    Calls Try.prog 39 #[.slice A n c, .int .i64 l] w fun e w' => e = .returned (.int .i64 (l - n)) ∧ w = w' := by
  unfold maxLen at hn
  go_enter Try.func39, Try.ntmps39
  go_wp2
  go_ret
  exact ⟨rfl, rfl⟩

set_option maxHeartbeats 400000 in
theorem szRect_no (n c n' c' : Nat) (A A' : Option Addr) (l : Int) (w : World) (h0 : 0 ≤ l) (h1 : l ≤ 1048576) (hn : n ≤ maxLen) (hn' : n' ≤ maxLen) (h : l < n + n') :
    Calls Try.prog 25 #[.agg #[.slice A n c, .slice A' n' c'], .int .i64 l] w fun e w' => e = .returned (.int .i64 (-1)) ∧ Below w.heap.size w w' := by
  by_cases hh : l < n
  · go_enter Try.func25, Try.ntmps25
    go_wp2_with fail
    refine (szInt64S_no _ _ _ _ _ h0 h1 hn hh).mono ?_
    rintro e w' ⟨rfl, rfl⟩
    go_wp2
    go_ret
    exact ⟨rfl, below_alloc _ _⟩
  · have hk : ¬ (l - n < 0) := by omega
    go_enter Try.func25, Try.ntmps25
    go_wp2_with fail
    refine (szInt64S_yes _ _ _ _ _ h0 h1 hn (by omega)).mono ?_
    rintro e w' ⟨rfl, rfl⟩
    go_wp2_with fail
    refine (szInt64S_no _ _ _ _ _ (by omega) (by omega) hn' (by omega)).mono ?_
    rintro e w' ⟨rfl, rfl⟩
    go_wp2
    go_ret
    exact ⟨rfl, below_alloc _ _⟩
set_option maxHeartbeats 400000 in
theorem szRect_yes (n c n' c' : Nat) (A A' : Option Addr) (l : Int) (w : World) (h1 : l ≤ 1048576) (hn : n ≤ maxLen) (hn' : n' ≤ maxLen) (h : n + n' ≤ l) :
    Calls Try.prog 25 #[.agg #[.slice A n c, .slice A' n' c'], .int .i64 l] w fun e w' => e = .returned (.int .i64 (l - n - n')) ∧ Below w.heap.size w w' := by
  have hk : ¬ (l - n < 0) := by omega
  have hk2 : ¬ (l - n - n' < 0) := by omega
  go_enter Try.func25, Try.ntmps25
  go_wp2_with fail
  refine (szInt64S_yes _ _ _ _ _ (by omega) h1 hn (by omega)).mono ?_
  rintro e w' ⟨rfl, rfl⟩
  go_wp2_with fail
  refine (szInt64S_yes _ _ _ _ _ (by omega) (by omega) hn' (by omega)).mono ?_
  rintro e w' ⟨rfl, rfl⟩
  go_wp2
  go_ret
  exact ⟨rfl, below_alloc _ _⟩

set_option maxHeartbeats 400000 in
theorem eqRect_is (v : Bool) (n1 c1 n2 c2 n3 c3 n4 c4 lo1 lo2 lo3 lo4 : Nat) (A1 A2 A3 A4 : Option Addr) (x1 x2 x3 x4 : List Int) (w : World) (hv : (decide (x1 = x3) && decide (x2 = x4)) = v)
    (h1 : Ints w lo1 A1 n1 x1) (h2 : Ints w lo2 A2 n2 x2) (h3 : Ints w lo3 A3 n3 x3) (h4 : Ints w lo4 A4 n4 x4) (m1 : n1 ≤ maxLen) (m2 : n2 ≤ maxLen) :
    Calls Try.prog 36 #[.agg #[.slice A1 n1 c1, .slice A2 n2 c2], .agg #[.slice A3 n3 c3, .slice A4 n4 c4]] w fun e w' => e = .returned (.bool v) ∧ Below w.heap.size w w' := by
  have B : Hid (Below w.heap.size w ((w.alloc (.cells #[.slice A1 n1 c1, .slice A2 n2 c2] 26)).alloc (.cells #[.slice A3 n3 c3, .slice A4 n4 c4] 26))) := (below_alloc _ _).alloc (by simp) _
  have H1 := Lib.hid (h1.kept B.out)
  have H2 := Lib.hid (h2.kept B.out)
  have H3 := Lib.hid (h3.kept B.out)
  have H4 := Lib.hid (h4.kept B.out)
  clear h1 h2 h3 h4
  cases e1 : decide (x1 = x3)
  · have E1 := Lib.hid e1
    have hvf : v = false := by rw [← hv, e1]; rfl
    subst hvf
    clear e1 hv
    go_enter Try.func36, Try.ntmps36
    go_wp2_with fail
    refine (eqInt64S_is false _ _ _ _ _ _ _ _ x1 x3 _ E1.out H1.out H3.out m1).mono ?_
    rintro e w' ⟨rfl, q, rfl⟩
    go_wp2
    go_ret
    exact ⟨rfl, below_draws B.out _⟩
  · have E1 := Lib.hid e1
    have E2 : Hid (decide (x2 = x4) = v) := by show decide (x2 = x4) = v; rw [← hv, e1]; simp
    clear e1 hv
    go_enter Try.func36, Try.ntmps36
    go_wp2_with fail
    refine (eqInt64S_is true _ _ _ _ _ _ _ _ x1 x3 _ E1.out H1.out H3.out m1).mono ?_
    rintro e w' ⟨rfl, q, rfl⟩
    go_wp2_with fail
    refine (eqInt64S_is v _ _ _ _ _ _ _ _ x2 x4 _ E2.out (H2.out.kept (below_draws (Below.refl _ _) q)) (H4.out.kept (below_draws (Below.refl _ _) q)) m2).mono ?_
    rintro e w' ⟨rfl, q', rfl⟩
    cases v
    · go_wp2
      go_ret
      exact ⟨rfl, below_draws B.out _⟩
    · go_wp2
      go_ret
      exact ⟨rfl, below_draws B.out _⟩


theorem Own.drew {w : World} {g n : Nat} {xs : List Int} (h : Own w g n xs) : Own w.drew g n xs := h
theorem Own.inside {w : World} {g n : Nat} {xs : List Int} (h : Own w g n xs) : g < w.heap.size := h.2.lt
theorem Own.far {w : World} {g n : Nat} {xs : List Int} (h : Own w g n xs) {a : Addr} (hne : g ≠ a.block) (v : Value) : Own (w.setCell a v) g n xs := ⟨h.1, h.2.setOther hne v⟩

set_option maxHeartbeats 800000 in
theorem toRect_any (n c n' c' lo lo' : Nat) (A A' : Option Addr) (xs ys : List Int) (w : World) (hx : Ints w lo A n xs) (hy : Ints w lo' A' n' ys) (hn : n ≤ 1048576) (hn' : n' ≤ 1048576) :
    Calls Try.prog 29 #[.agg #[.slice A n c, .slice A' n' c']] w fun e w' => ∃ g g', e = .returned (.agg #[.slice (some ⟨g, 0, none⟩) n n, .slice (some ⟨g', 0, none⟩) n' n']) ∧
      Own w' g n xs ∧ Own w' g' n' ys ∧ w.heap.size ≤ g ∧ g < g' ∧ Below w.heap.size w w' := by
  have B0 : Hid (Below w.heap.size w (((w.alloc (.cells #[.slice A n c, .slice A' n' c'] 40)).alloc (.cells #[.slice none 0 0, .slice none 0 0] 26)).alloc (.cells #[.slice none 0 0, .slice none 0 0] 26))) :=
    ((below_alloc _ _).alloc (by simp) _).alloc (by simp; omega) _
  have HX := Lib.hid hx
  have HY := Lib.hid hy
  clear hx hy
  have L0 := Lib.hid (((Lies.new w 40 #[.slice A n c, .slice A' n' c']).alloc (.cells #[.slice none 0 0, .slice none 0 0] 26)).alloc (.cells #[.slice none 0 0, .slice none 0 0] 26))
  have L1 := Lib.hid ((Lies.new (w.alloc (.cells #[.slice A n c, .slice A' n' c'] 40)) 26 #[.slice none 0 0, .slice none 0 0]).alloc (.cells #[.slice none 0 0, .slice none 0 0] 26))
  have L2 := Lib.hid (Lies.new ((w.alloc (.cells #[.slice A n c, .slice A' n' c'] 40)).alloc (.cells #[.slice none 0 0, .slice none 0 0] 26)) 26 #[.slice none 0 0, .slice none 0 0])
  simp only [World.size_alloc] at L1 L2
  go_enter Try.func29, Try.ntmps29
  go_wp2_with fail
  refine (toInt64S_new _ _ _ _ _ _ (HX.out.kept B0.out) hn).mono ?_
  rintro e W1 ⟨g, rfl, hg, o1, b1⟩
  simp only [World.size_alloc] at hg b1
  replace L0 := Lib.hid (L0.out.kept b1 (by omega))
  replace L1 := Lib.hid (L1.out.kept b1 (by omega))
  replace L2 := Lib.hid (L2.out.kept b1 (by omega))
  have B1 := Lib.hid (B0.out.trans (b1.mono (by omega)))
  have O1 := Lib.hid o1
  clear b1 o1
  have cA : W1.cell? ⟨w.heap.size, 1, none⟩ = some (.slice A' n' c') := L0.out.cell 1
  have cB : W1.cell? ⟨w.heap.size + 1 + 1, 0, none⟩ = some (.slice none 0 0) := L2.out.cell 0
  have fB : W1.frozen? ⟨w.heap.size + 1 + 1, 0, none⟩ = false := L2.out.thawed 0
  go_wp2_with fail
  clear cA cB fB
  have B2 := Lib.hid (B1.out.setCell (p := ⟨w.heap.size + 1 + 1, 0, none⟩) (by show w.heap.size ≤ w.heap.size + 1 + 1; omega) (.slice (some ⟨g, 0, none⟩) n n))
  refine (toInt64S_new _ _ _ _ _ _ (HY.out.kept B2.out) hn').mono ?_
  rintro e W2 ⟨g', rfl, hg', o2, b2⟩
  have hs1 : g < W1.heap.size := O1.out.inside
  have hsz : (W1.setCell ⟨w.heap.size + 1 + 1, 0, none⟩ (.slice (some ⟨g, 0, none⟩) n n)).heap.size = W1.heap.size := by simp [World.setCell]
  rw [hsz] at hg' b2
  clear hsz
  replace L1 := Lib.hid ((L1.out.far (a := ⟨w.heap.size + 1 + 1, 0, none⟩) (by simp) (.slice (some ⟨g, 0, none⟩) n n)).kept b2 L1.out.inside)
  replace L2 := Lib.hid ((L2.out.set 0 (.slice (some ⟨g, 0, none⟩) n n)).kept b2 L2.out.inside)
  replace O1 := Lib.hid ((O1.out.far (a := ⟨w.heap.size + 1 + 1, 0, none⟩) (by show g ≠ w.heap.size + 1 + 1; omega) (.slice (some ⟨g, 0, none⟩) n n)).kept (b2.mono (by simp [World.setCell])))
  have B3 := Lib.hid (B2.out.trans (b2.mono (by have := B1.out.size; omega)))
  have O2 := Lib.hid o2
  clear b2 o2 B0 B1 B2 L0 HX HY
  have cB0 : W2.cell? ⟨w.heap.size + 1 + 1, 0, none⟩ = some (.slice (some ⟨g, 0, none⟩) n n) := L2.out.cell 0
  have cB1 : W2.cell? ⟨w.heap.size + 1 + 1, 1, none⟩ = some (.slice none 0 0) := L2.out.cell 1
  have fB : W2.frozen? ⟨w.heap.size + 1 + 1, 1, none⟩ = false := L2.out.thawed 1
  have cC0 : W2.cell? ⟨w.heap.size + 1, 0, none⟩ = some (.slice none 0 0) := L1.out.cell 0
  have cC1 : W2.cell? ⟨w.heap.size + 1, 1, none⟩ = some (.slice none 0 0) := L1.out.cell 1
  have fC0 : W2.frozen? ⟨w.heap.size + 1, 0, none⟩ = false := L1.out.thawed 0
  have fC1 : W2.frozen? ⟨w.heap.size + 1, 1, none⟩ = false := L1.out.thawed 1
  go_wp2
  refine bodyPost_ret (v := .agg #[.slice (some ⟨g, 0, none⟩) n n, .slice (some ⟨g', 0, none⟩) n' n']) (by simp [results, Try.results29, go_sem, cC0, cC1]) rfl ⟨g, g', rfl, ?_, ?_, by omega, by omega, ?_⟩
  · exact ((O1.out.far (by show g ≠ w.heap.size + 1 + 1; omega) _).far (by show g ≠ w.heap.size + 1; omega) _).far (by show g ≠ w.heap.size + 1; omega) _
  · exact ((O2.out.far (by show g' ≠ w.heap.size + 1 + 1; omega) _).far (by show g' ≠ w.heap.size + 1; omega) _).far (by show g' ≠ w.heap.size + 1; omega) _
  · exact ((B3.out.setCell (by show w.heap.size ≤ w.heap.size + 1 + 1; omega) _).setCell (by show w.heap.size ≤ w.heap.size + 1; omega) _).setCell (by show w.heap.size ≤ w.heap.size + 1; omega) _

end Go.Proofs.Ytpgoildfjkokiab
