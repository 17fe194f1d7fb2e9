/- The walks of the functions that look at a point: impl.within, impl.PointFault, spec.l1In, spec.PointFault, laws.toInt64S, laws.eqInt64S. Each theorem says what one Go function returns, for every argument that reads as numbers. -/
import Derived.Test.YtpgoildfjkokiabWords
namespace Go.Proofs.Ytpgoildfjkokiab
open Go.RowKit

/-- All numbers are from l to h. -/
def allIn (l h : Int) (xs : List Int) : Bool := xs.all fun x => decide (l ≤ x) && decide (x ≤ h)

theorem allIn_next {l h x : Int} {xs : List Int} {k : Nat} (hk : xs[k]? = some x) (hp : allIn l h (xs.take k) = true) (h1 : l ≤ x) (h2 : x ≤ h) : allIn l h (xs.take (k + 1)) = true := by
  unfold allIn at *
  rw [List.take_add_one, hk, List.all_append, hp]
  simp
  exact ⟨h1, h2⟩
theorem allIn_false {l h x : Int} {xs : List Int} {k : Nat} (hk : xs[k]? = some x) (hx : ¬ (l ≤ x ∧ x ≤ h)) : allIn l h xs = false := by
  unfold allIn
  rw [List.all_eq_false]
  refine ⟨x, List.mem_of_getElem? hk, ?_⟩
  simpa using hx

set_option maxHeartbeats 400000 in
theorem within_any (l h : Int) (lo n c : Nat) (A : Option Addr) (xs : List Int) (w : World) (hx : Ints w lo A n xs) (hn : n ≤ maxLen) :
    Calls Try.prog 30 #[.int .i64 l, .int .i64 h, .slice A n c] w fun e w' => e = .returned (.bool (allIn l h xs)) ∧ w = w' := by
  unfold maxLen at hn
  have HL := Lib.hid hx.1
  go_enter Try.func30, Try.ntmps30
  go_wp2
  go_loop [11] (fun i => ∃ k : Nat, k ≤ n ∧ i = .int .i64 k ∧ Hid (allIn l h (xs.take k) = true)) (fun i => n - (intOf i).toNat)
  case atStart => exact ⟨0, Nat.zero_le _, rfl, rfl⟩
  case round =>
    obtain ⟨k, hk, rfl, hall⟩ := hrel
    by_cases hlt : k < n
    · obtain ⟨b, o, x, rfl, _, _, hc, hxk⟩ := hx.cellAt hlt
      clear hx
      by_cases h1 : l ≤ x
      · by_cases h2 : x ≤ h
        · have HA := Lib.hid (allIn_next hxk.out hall.out h1 h2)
          go_wp2
          go_round
          case rel => exact ⟨k + 1, by omega, by go_num, HA⟩
          case measure => simp [intOf]; omega
        · have HF := Lib.hid (allIn_false (l := l) (h := h) hxk.out (fun hh => h2 hh.2))
          go_wp2
          go_ret
          exact ⟨ret_bool HF.out.symm, rfl⟩
      · have HF := Lib.hid (allIn_false (l := l) (h := h) hxk.out (fun hh => h1 hh.1))
        go_wp2
        go_ret
        exact ⟨ret_bool HF.out.symm, rfl⟩
    · have HA : Hid (allIn l h xs = true) := by
        have := hall.out
        rwa [List.take_of_length_le (by rw [HL.out]; omega)] at this
      go_wp2
      go_ret
      exact ⟨ret_bool HA.out.symm, rfl⟩

/-- What is wrong with a point. -/
def pf (xs : List Int) (d : Int) : Int := if 2 ≤ d ∧ d ≤ 3 then if (xs.length : Int) = d then if allIn (-1000) 1000 xs then 0 else 3 else 2 else 3

theorem l1In_any (v l h : Int) (w : World) :
    Calls Try.prog 26 #[.int .i64 v, .int .i64 l, .int .i64 h] w fun e w' => e = .returned (.bool (decide (l ≤ v) && decide (v ≤ h))) ∧ w = w' := by
  by_cases h1 : l ≤ v
  · by_cases h2 : v ≤ h
    · go_enter Try.func26, Try.ntmps26
      go_wp2
      go_ret
      exact ⟨ret_bool (by simp [h1, h2]), rfl⟩
    · go_enter Try.func26, Try.ntmps26
      go_wp2
      go_ret
      exact ⟨ret_bool (by simp [h2]), rfl⟩
  · go_enter Try.func26, Try.ntmps26
    go_wp2
    go_ret
    exact ⟨ret_bool (by rw [decide_eq_false (by omega)]; rfl), rfl⟩

theorem l1In_yes (v l h : Int) (w : World) (h1 : l ≤ v) (h2 : v ≤ h) : Calls Try.prog 26 #[.int .i64 v, .int .i64 l, .int .i64 h] w fun e w' => e = .returned (.bool true) ∧ w = w' :=
  (l1In_any v l h w).mono fun e w' hh => ⟨hh.1.trans (ret_bool (by simp [h1, h2])), hh.2⟩
theorem l1In_no (v l h : Int) (w : World) (h1 : ¬ (l ≤ v ∧ v ≤ h)) : Calls Try.prog 26 #[.int .i64 v, .int .i64 l, .int .i64 h] w fun e w' => e = .returned (.bool false) ∧ w = w' :=
  (l1In_any v l h w).mono fun e w' hh => ⟨hh.1.trans (ret_bool (by rw [Bool.and_eq_false_iff]; simp only [decide_eq_false_iff_not]; omega)), hh.2⟩

set_option maxHeartbeats 400000 in
theorem specPointFault_any (d : Int) (lo n c : Nat) (A : Option Addr) (xs : List Int) (w : World) (hx : Ints w lo A n xs) (hn : n ≤ maxLen) :
    Calls Try.prog 48 #[.slice A n c, .int .i64 d] w fun e w' => e = .returned (.int .i64 (pf xs d)) ∧ w = w' := by
  unfold maxLen at hn
  have HL := Lib.hid hx.1
  by_cases hd : 2 ≤ d ∧ d ≤ 3
  · obtain ⟨d1, d2⟩ := hd
    by_cases hne : (n : Int) = d
    · subst hne
      have hneq : ((n : Int) != (n : Int)) = false := by simp
      go_enter Try.func48, Try.ntmps48
      go_wp2_with (go_at_call 26; refine (l1In_yes _ _ _ _ (by omega) (by omega)).mono ?_; rintro e w' ⟨rfl, rfl⟩)
      go_loop [5] (fun i => ∃ k : Nat, k ≤ n ∧ i = .int .i64 k ∧ Hid (allIn (-1000) 1000 (xs.take k) = true)) (fun i => n - (intOf i).toNat)
      case atStart => exact ⟨0, Nat.zero_le _, rfl, rfl⟩
      case round =>
        obtain ⟨k, hk, rfl, hall⟩ := hrel
        by_cases hlt : k < n
        · obtain ⟨b, o, x, rfl, _, _, hc, hxk⟩ := hx.cellAt hlt
          clear hx
          by_cases h12 : -1000 ≤ x ∧ x ≤ 1000
          · obtain ⟨h1, h2⟩ := h12
            have HA := Lib.hid (allIn_next hxk.out hall.out h1 h2)
            go_wp2_with (go_at_call 26; refine (l1In_yes _ _ _ _ (by omega) (by omega)).mono ?_; rintro e w' ⟨rfl, rfl⟩)
            go_round
            case rel => exact ⟨k + 1, by omega, by go_num, HA⟩
            case measure => simp [intOf]; omega
          · have HF := Lib.hid (allIn_false (l := -1000) (h := 1000) hxk.out h12)
            have H12 := Lib.hid h12
            clear h12
            go_wp2_with (go_at_call 26; refine (l1In_no _ _ _ _ H12.out).mono ?_; rintro e w' ⟨rfl, rfl⟩)
            go_ret
            exact ⟨ret_i64 (by simp [pf, HL.out, HF.out, d1, d2]), rfl⟩
        · have HA : Hid (allIn (-1000) 1000 xs = true) := by
            have := hall.out
            rwa [List.take_of_length_le (by rw [HL.out]; omega)] at this
          go_wp2
          go_ret
          exact ⟨ret_i64 (by simp [pf, HL.out, HA.out, d1, d2]), rfl⟩
    · have hneq : ((n : Int) != d) = true := by simpa using hne
      go_enter Try.func48, Try.ntmps48
      go_wp2_with (go_at_call 26; refine (l1In_yes _ _ _ _ (by omega) (by omega)).mono ?_; rintro e w' ⟨rfl, rfl⟩)
      go_ret
      exact ⟨ret_i64 (by simp [pf, HL.out, hne, d1, d2]), rfl⟩
  · have H12 := Lib.hid hd
    clear hd
    go_enter Try.func48, Try.ntmps48
    go_wp2_with (go_at_call 26; refine (l1In_no _ _ _ _ H12.out).mono ?_; rintro e w' ⟨rfl, rfl⟩)
    go_ret
    exact ⟨ret_i64 (by simp [pf, H12.out]), rfl⟩

theorem one_ints (w : World) (d : Int) : Ints (w.alloc (.cells #[.int .i64 d] 2)) w.heap.size (some ⟨w.heap.size, 0, none⟩) 1 [d] := by
  refine ⟨rfl, fun _ => ⟨_, _, rfl, Nat.le_refl _, by simp, fun k x hk => ?_⟩⟩
  match k, hk with
  | 0, hk =>
    simp at hk; subst hk
    exact cell_new w _ _ 0

theorem allIn_one (l h d : Int) : allIn l h [d] = (decide (l ≤ d) && decide (d ≤ h)) := by simp [allIn]

theorem within_is (l h : Int) (lo n c : Nat) (A : Option Addr) (xs : List Int) (w : World) (v : Bool) (hv : allIn l h xs = v) (hx : Ints w lo A n xs) (hn : n ≤ maxLen) :
    Calls Try.prog 30 #[.int .i64 l, .int .i64 h, .slice A n c] w fun e w' => e = .returned (.bool v) ∧ w = w' := hv ▸ within_any l h lo n c A xs w hx hn

theorem below_alloc (w : World) (o : Obj) : Below w.heap.size w (w.alloc o) := (Below.refl _ _).alloc (Nat.le_refl _) o

set_option maxHeartbeats 400000 in
theorem implPointFault_any (d : Int) (lo n c : Nat) (A : Option Addr) (xs : List Int) (w : World) (hx : Ints w lo A n xs) (hn : n ≤ maxLen) :
    Calls Try.prog 49 #[.slice A n c, .int .i64 d] w fun e w' => e = .returned (.int .i64 (pf xs d)) ∧ Below w.heap.size w w' := by
  have HL := Lib.hid hx.1
  have HX := Lib.hid (hx.kept (below_alloc w (.cells #[.int .i64 d] 2)))
  clear hx
  by_cases hd : 2 ≤ d ∧ d ≤ 3
  · have H1 := Lib.hid (show allIn 2 3 [d] = true by rw [allIn_one]; simpa using hd)
    have HD := Lib.hid hd
    clear hd
    by_cases hne : (n : Int) = d
    · have hneq : ((n : Int) != d) = false := by simpa using hne
      have HN := Lib.hid hne
      clear hne
      cases hall : allIn (-1000) 1000 xs
      all_goals
        have H2 := Lib.hid hall
        clear hall
        go_enter Try.func49, Try.ntmps49
        go_wp2_with fail
        refine (within_is _ _ _ _ _ _ [d] _ _ H1.out (one_ints w d) (by decide)).mono ?_
        rintro e w' ⟨rfl, rfl⟩
        go_wp2_with fail
        refine (within_is _ _ _ _ _ _ xs _ _ H2.out HX.out hn).mono ?_
        rintro e w' ⟨rfl, rfl⟩
        go_wp2
        go_ret
        exact ⟨ret_i64 (by simp [pf, HL.out, HD.out, HN.out, H2.out]), below_alloc _ _⟩
    · have hneq : ((n : Int) != d) = true := by simpa using hne
      go_enter Try.func49, Try.ntmps49
      go_wp2_with fail
      refine (within_is _ _ _ _ _ _ [d] _ _ H1.out (one_ints w d) (by decide)).mono ?_
      rintro e w' ⟨rfl, rfl⟩
      go_wp2
      go_ret
      exact ⟨ret_i64 (by simp [pf, HL.out, HD.out, hne]), below_alloc _ _⟩
  · have H1 := Lib.hid (show allIn 2 3 [d] = false by rw [allIn_one, Bool.and_eq_false_iff]; simp only [decide_eq_false_iff_not]; omega)
    have HD := Lib.hid hd
    clear hd
    go_enter Try.func49, Try.ntmps49
    go_wp2_with fail
    refine (within_is _ _ _ _ _ _ [d] _ _ H1.out (one_ints w d) (by decide)).mono ?_
    rintro e w' ⟨rfl, rfl⟩
    go_wp2
    go_ret
    exact ⟨ret_i64 (by simp [pf, HD.out]), below_alloc _ _⟩

end Go.Proofs.Ytpgoildfjkokiab
