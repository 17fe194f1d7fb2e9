/- What memory holds, said in a few words of my own: a slice that reads as a list of numbers, and what keeps it so. No condition. -/
import Derived.Test.YtpgoildfjkokiaaGreatRows
import Derived.WalkKit
import Derived.WalkSpells
import Derived.WalkLawsBesides
import Derived.Deep.QuietTactic
import Derived.BigQuiet
import Derived.Lib.Hide
import Derived.Deep.Draws
import Derived.Deep.OwnRows
import Derived.Laws.Rows
namespace Go.Proofs.YtpgoildfjkokiaaGreat
open Go.RowKit

/-- The slice value '.slice A n c' reads as the numbers xs; its cells lie in a block from lo on. -/
def Ints (w : World) (lo : Nat) (A : Option Addr) (n : Nat) (xs : List Int) : Prop :=
  xs.length = n ∧ (0 < n → ∃ b o, A = some ⟨b, o, none⟩ ∧ lo ≤ b ∧ b < w.heap.size ∧ ∀ k x, xs[k]? = some x → w.cell? ⟨b, o + k, none⟩ = some (.int .i64 x))

theorem Ints.empty (w : World) (lo : Nat) (A : Option Addr) : Ints w lo A 0 [] := ⟨rfl, fun h => absurd h (Nat.lt_irrefl 0)⟩

/-- The cell of the k-th number. -/
theorem Ints.cellAt {w : World} {lo n k : Nat} {A : Option Addr} {xs : List Int} (h : Ints w lo A n xs) (hk : k < n) :
    ∃ b o x, A = some ⟨b, o, none⟩ ∧ lo ≤ b ∧ b < w.heap.size ∧ w.cell? ⟨b, o + k, none⟩ = some (.int .i64 x) ∧ Hid (xs[k]? = some x) := by
  obtain ⟨hl, hr⟩ := h
  obtain ⟨b, o, e, h1, h2, h3⟩ := hr (by omega)
  have hx : xs[k]? = some (xs[k]'(by omega)) := List.getElem?_eq_getElem (by omega)
  exact ⟨b, o, _, e, h1, h2, h3 k _ hx, hx⟩

/-- Kept where every block that was there reads as it did. -/
theorem Ints.kept {w w' : World} {lo n : Nat} {A : Option Addr} {xs : List Int} (h : Ints w lo A n xs) (hb : Below w.heap.size w w') : Ints w' lo A n xs := by
  obtain ⟨hl, hr⟩ := h
  refine ⟨hl, fun hn => ?_⟩
  obtain ⟨b, o, e, h1, h2, h3⟩ := hr hn
  exact ⟨b, o, e, h1, Nat.lt_of_lt_of_le h2 hb.size, fun k x hx => (hb.cell (p := ⟨b, o + k, none⟩) h2).trans (h3 k x hx)⟩

theorem Ints.drew {w : World} {lo n : Nat} {A : Option Addr} {xs : List Int} (h : Ints w lo A n xs) : Ints w.drew lo A n xs := h
theorem Ints.lower {w : World} {lo lo' n : Nat} {A : Option Addr} {xs : List Int} (h : Ints w lo A n xs) (hl : lo' ≤ lo) : Ints w lo' A n xs := by
  obtain ⟨h0, hr⟩ := h
  refine ⟨h0, fun hn => ?_⟩
  obtain ⟨b, o, e, h1, h2, h3⟩ := hr hn
  exact ⟨b, o, e, Nat.le_trans hl h1, h2, h3⟩

theorem below_draws {B : Nat} {a w : World} (h : Below B a w) (n : Nat) : Below B a (w.drewN n) := ⟨h.os, h.tape, h.output, h.size, h.block⟩

/-- A draw ahead of it turns nothing. -/
theorem below_drawn {w w' : World} (h : Below w.drew.heap.size w.drew w') : Below w.heap.size w w' := ⟨h.os, h.tape, h.output, h.size, h.block⟩

theorem ret_bool {a b : Bool} (h : a = b) : Ending.returned (.bool a) = .returned (.bool b) := by rw [h]
theorem ret_i64 {a b : Int} (h : a = b) : Ending.returned (.int .i64 a) = .returned (.int .i64 b) := by rw [h]

/-- A block that has just been laid. -/
theorem cell_new (w : World) (cs : Array Value) (t k : Nat) : (w.alloc (.cells cs t)).cell? ⟨w.heap.size, k, none⟩ = cs[k]? := cell_of_row _ _ _ cs t (0, 0) (heap_alloc_new w _)

/-- Block g is known whole, and may be written. -/
def Lies (w : World) (g : Nat) (t : TypeId) (cs : Array Value) : Prop := w.heap[g]? = some (.cells cs t (0, 0))

theorem Lies.new (w : World) (t : TypeId) (cs : Array Value) : Lies (w.alloc (.cells cs t)) w.heap.size t cs := heap_alloc_new w _
theorem Lies.inside {w : World} {g : Nat} {t : TypeId} {cs : Array Value} (h : Lies w g t cs) : g < w.heap.size := by
  rcases Nat.lt_or_ge g w.heap.size with h1 | h1
  · exact h1
  · exact absurd (h.symm.trans (Array.getElem?_eq_none h1)) (by simp)
theorem Lies.cell {w : World} {g : Nat} {t : TypeId} {cs : Array Value} (h : Lies w g t cs) (k : Nat) : w.cell? ⟨g, k, none⟩ = cs[k]? := cell_of_row w g k cs t (0, 0) h
theorem Lies.thawed {w : World} {g : Nat} {t : TypeId} {cs : Array Value} (h : Lies w g t cs) (k : Nat) : w.frozen? ⟨g, k, none⟩ = false := frozen_of_row w g k cs t h
theorem Lies.kept {w w' : World} {g B : Nat} {t : TypeId} {cs : Array Value} (h : Lies w g t cs) (hb : Below B w w') (hg : g < B) : Lies w' g t cs := (hb.block g hg).trans h
theorem Lies.alloc {w : World} {g : Nat} {t : TypeId} {cs : Array Value} (h : Lies w g t cs) (o : Obj) : Lies (w.alloc o) g t cs := (Below.heap_alloc w o g h.inside).trans h
theorem Lies.set {w : World} {g : Nat} {t : TypeId} {cs : Array Value} (h : Lies w g t cs) (k : Nat) (v : Value) : Lies (w.setCell ⟨g, k, none⟩ v) g t (cs.setIfInBounds k v) := heap_setCell_same w g k cs t v h
theorem Lies.far {w : World} {g : Nat} {t : TypeId} {cs : Array Value} (h : Lies w g t cs) {a : Addr} (hne : g ≠ a.block) (v : Value) : Lies (w.setCell a v) g t cs := (heap_setCell_other w a g v hne).trans h
theorem Lies.drew {w : World} {g : Nat} {t : TypeId} {cs : Array Value} (h : Lies w g t cs) : Lies w.drew g t cs := h
theorem Lies.draws {w : World} {g : Nat} {t : TypeId} {cs : Array Value} (h : Lies w g t cs) (n : Nat) : Lies (w.drewN n) g t cs := h

end Go.Proofs.YtpgoildfjkokiaaGreat

/- The walks of the functions that look at a point: impl.within, impl.PointFault, spec.l1In, spec.PointFault, laws.toInt64S, laws.eqInt64S. Each theorem says what one Go function returns, for every argument that reads as numbers. -/
namespace Go.Proofs.YtpgoildfjkokiaaGreat
open Go.RowKit

/-- All numbers are from l to h. -/
def allIn (l h : Int) (xs : List Int) : Bool := xs.all fun x => decide (l ≤ x) && decide (x ≤ h)

theorem allIn_next {l h x : Int} {xs : List Int} {k : Nat} (hk : xs[k]? = some x) (hp : allIn l h (xs.take k) = true) (h1 : l ≤ x) (h2 : x ≤ h) : allIn l h (xs.take (k + 1)) = true := by
  unfold allIn at *
  rw [List.take_add_one, hk, List.all_append, hp]
  simp
  exact ⟨h1, h2⟩
theorem allIn_false {l h x : Int} {xs : List Int} {k : Nat} (hk : xs[k]? = some x) (hx : ¬ (l ≤ x ∧ x ≤ h)) : allIn l h xs = false := by
  unfold allIn
  rw [List.all_eq_false]
  refine ⟨x, List.mem_of_getElem? hk, ?_⟩
  simpa using hx

set_option maxHeartbeats 400000 in
theorem within_any (l h : Int) (lo n c : Nat) (A : Option Addr) (xs : List Int) (w : World) (hx : Ints w lo A n xs) (hn : n ≤ maxLen) :
    Calls Tryz.prog 69 #[.int .i64 l, .int .i64 h, .slice A n c] w fun e w' => e = .returned (.bool (allIn l h xs)) ∧ w = w' := by
  unfold maxLen at hn
  have HL := Lib.hid hx.1
  go_enter Tryz.func69, Tryz.ntmps69
  go_wp2
  go_loop [11] (fun i => ∃ k : Nat, k ≤ n ∧ i = .int .i64 k ∧ Hid (allIn l h (xs.take k) = true)) (fun i => n - (intOf i).toNat)
  case atStart => exact ⟨0, Nat.zero_le _, rfl, rfl⟩
  case round =>
    obtain ⟨k, hk, rfl, hall⟩ := hrel
    by_cases hlt : k < n
    · obtain ⟨b, o, x, rfl, _, _, hc, hxk⟩ := hx.cellAt hlt
      clear hx
      by_cases h1 : l ≤ x
      · by_cases h2 : x ≤ h
        · have HA := Lib.hid (allIn_next hxk.out hall.out h1 h2)
          go_wp2
          go_round
          case rel => exact ⟨k + 1, by omega, by go_num, HA⟩
          case measure => simp [intOf]; omega
        · have HF := Lib.hid (allIn_false (l := l) (h := h) hxk.out (fun hh => h2 hh.2))
          go_wp2
          go_ret
          exact ⟨ret_bool HF.out.symm, rfl⟩
      · have HF := Lib.hid (allIn_false (l := l) (h := h) hxk.out (fun hh => h1 hh.1))
        go_wp2
        go_ret
        exact ⟨ret_bool HF.out.symm, rfl⟩
    · have HA : Hid (allIn l h xs = true) := by
        have := hall.out
        rwa [List.take_of_length_le (by rw [HL.out]; omega)] at this
      go_wp2
      go_ret
      exact ⟨ret_bool HA.out.symm, rfl⟩

/-- What is wrong with a point. -/
def pf (xs : List Int) (d : Int) : Int := if 2 ≤ d ∧ d ≤ 3 then if (xs.length : Int) = d then if allIn (-1000) 1000 xs then 0 else 3 else 2 else 3

theorem l1In_any (v l h : Int) (w : World) :
    Calls Tryz.prog 31 #[.int .i64 v, .int .i64 l, .int .i64 h] w fun e w' => e = .returned (.bool (decide (l ≤ v) && decide (v ≤ h))) ∧ w = w' := by
  by_cases h1 : l ≤ v
  · by_cases h2 : v ≤ h
    · go_enter Tryz.func31, Tryz.ntmps31
      go_wp2
      go_ret
      exact ⟨ret_bool (by simp [h1, h2]), rfl⟩
    · go_enter Tryz.func31, Tryz.ntmps31
      go_wp2
      go_ret
      exact ⟨ret_bool (by simp [h2]), rfl⟩
  · go_enter Tryz.func31, Tryz.ntmps31
    go_wp2
    go_ret
    exact ⟨ret_bool (by rw [decide_eq_false (by omega)]; rfl), rfl⟩

theorem l1In_yes (v l h : Int) (w : World) (h1 : l ≤ v) (h2 : v ≤ h) : Calls Tryz.prog 31 #[.int .i64 v, .int .i64 l, .int .i64 h] w fun e w' => e = .returned (.bool true) ∧ w = w' :=
  (l1In_any v l h w).mono fun e w' hh => ⟨hh.1.trans (ret_bool (by simp [h1, h2])), hh.2⟩
theorem l1In_no (v l h : Int) (w : World) (h1 : ¬ (l ≤ v ∧ v ≤ h)) : Calls Tryz.prog 31 #[.int .i64 v, .int .i64 l, .int .i64 h] w fun e w' => e = .returned (.bool false) ∧ w = w' :=
  (l1In_any v l h w).mono fun e w' hh => ⟨hh.1.trans (ret_bool (by rw [Bool.and_eq_false_iff]; simp only [decide_eq_false_iff_not]; omega)), hh.2⟩

set_option maxHeartbeats 400000 in
theorem specPointFault_any (d : Int) (lo n c : Nat) (A : Option Addr) (xs : List Int) (w : World) (hx : Ints w lo A n xs) (hn : n ≤ maxLen) :
    Calls Tryz.prog 136 #[.slice A n c, .int .i64 d] w fun e w' => e = .returned (.int .i64 (pf xs d)) ∧ w = w' := by
  unfold maxLen at hn
  have HL := Lib.hid hx.1
  by_cases hd : 2 ≤ d ∧ d ≤ 3
  · obtain ⟨d1, d2⟩ := hd
    by_cases hne : (n : Int) = d
    · subst hne
      have hneq : ((n : Int) != (n : Int)) = false := by simp
      go_enter Tryz.func136, Tryz.ntmps136
      go_wp2_with (go_at_call 31; refine (l1In_yes _ _ _ _ (by omega) (by omega)).mono ?_; rintro e w' ⟨rfl, rfl⟩)
      go_loop [5] (fun i => ∃ k : Nat, k ≤ n ∧ i = .int .i64 k ∧ Hid (allIn (-1000) 1000 (xs.take k) = true)) (fun i => n - (intOf i).toNat)
      case atStart => exact ⟨0, Nat.zero_le _, rfl, rfl⟩
      case round =>
        obtain ⟨k, hk, rfl, hall⟩ := hrel
        by_cases hlt : k < n
        · obtain ⟨b, o, x, rfl, _, _, hc, hxk⟩ := hx.cellAt hlt
          clear hx
          by_cases h12 : -1000 ≤ x ∧ x ≤ 1000
          · obtain ⟨h1, h2⟩ := h12
            have HA := Lib.hid (allIn_next hxk.out hall.out h1 h2)
            go_wp2_with (go_at_call 31; refine (l1In_yes _ _ _ _ (by omega) (by omega)).mono ?_; rintro e w' ⟨rfl, rfl⟩)
            go_round
            case rel => exact ⟨k + 1, by omega, by go_num, HA⟩
            case measure => simp [intOf]; omega
          · have HF := Lib.hid (allIn_false (l := -1000) (h := 1000) hxk.out h12)
            have H12 := Lib.hid h12
            clear h12
            go_wp2_with (go_at_call 31; refine (l1In_no _ _ _ _ H12.out).mono ?_; rintro e w' ⟨rfl, rfl⟩)
            go_ret
            exact ⟨ret_i64 (by simp [pf, HL.out, HF.out, d1, d2]), rfl⟩
        · have HA : Hid (allIn (-1000) 1000 xs = true) := by
            have := hall.out
            rwa [List.take_of_length_le (by rw [HL.out]; omega)] at this
          go_wp2
          go_ret
          exact ⟨ret_i64 (by simp [pf, HL.out, HA.out, d1, d2]), rfl⟩
    · have hneq : ((n : Int) != d) = true := by simpa using hne
      go_enter Tryz.func136, Tryz.ntmps136
      go_wp2_with (go_at_call 31; refine (l1In_yes _ _ _ _ (by omega) (by omega)).mono ?_; rintro e w' ⟨rfl, rfl⟩)
      go_ret
      exact ⟨ret_i64 (by simp [pf, HL.out, hne, d1, d2]), rfl⟩
  · have H12 := Lib.hid hd
    clear hd
    go_enter Tryz.func136, Tryz.ntmps136
    go_wp2_with (go_at_call 31; refine (l1In_no _ _ _ _ H12.out).mono ?_; rintro e w' ⟨rfl, rfl⟩)
    go_ret
    exact ⟨ret_i64 (by simp [pf, H12.out]), rfl⟩

theorem one_ints (w : World) (d : Int) : Ints (w.alloc (.cells #[.int .i64 d] 2)) w.heap.size (some ⟨w.heap.size, 0, none⟩) 1 [d] := by
  refine ⟨rfl, fun _ => ⟨_, _, rfl, Nat.le_refl _, by simp, fun k x hk => ?_⟩⟩
  match k, hk with
  | 0, hk =>
    simp at hk; subst hk
    exact cell_new w _ _ 0

theorem allIn_one (l h d : Int) : allIn l h [d] = (decide (l ≤ d) && decide (d ≤ h)) := by simp [allIn]

theorem within_is (l h : Int) (lo n c : Nat) (A : Option Addr) (xs : List Int) (w : World) (v : Bool) (hv : allIn l h xs = v) (hx : Ints w lo A n xs) (hn : n ≤ maxLen) :
    Calls Tryz.prog 69 #[.int .i64 l, .int .i64 h, .slice A n c] w fun e w' => e = .returned (.bool v) ∧ w = w' := hv ▸ within_any l h lo n c A xs w hx hn

theorem below_alloc (w : World) (o : Obj) : Below w.heap.size w (w.alloc o) := (Below.refl _ _).alloc (Nat.le_refl _) o

set_option maxHeartbeats 400000 in
theorem implPointFault_any (d : Int) (lo n c : Nat) (A : Option Addr) (xs : List Int) (w : World) (hx : Ints w lo A n xs) (hn : n ≤ maxLen) :
    Calls Tryz.prog 145 #[.slice A n c, .int .i64 d] w fun e w' => e = .returned (.int .i64 (pf xs d)) ∧ Below w.heap.size w w' := by
  have HL := Lib.hid hx.1
  have HX := Lib.hid (hx.kept (below_alloc w (.cells #[.int .i64 d] 2)))
  clear hx
  by_cases hd : 2 ≤ d ∧ d ≤ 3
  · have H1 := Lib.hid (show allIn 2 3 [d] = true by rw [allIn_one]; simpa using hd)
    have HD := Lib.hid hd
    clear hd
    by_cases hne : (n : Int) = d
    · have hneq : ((n : Int) != d) = false := by simpa using hne
      have HN := Lib.hid hne
      clear hne
      cases hall : allIn (-1000) 1000 xs
      all_goals
        have H2 := Lib.hid hall
        clear hall
        go_enter Tryz.func145, Tryz.ntmps145
        go_wp2_with fail
        refine (within_is _ _ _ _ _ _ [d] _ _ H1.out (one_ints w d) (by decide)).mono ?_
        rintro e w' ⟨rfl, rfl⟩
        go_wp2_with fail
        refine (within_is _ _ _ _ _ _ xs _ _ H2.out HX.out hn).mono ?_
        rintro e w' ⟨rfl, rfl⟩
        go_wp2
        go_ret
        exact ⟨ret_i64 (by simp [pf, HL.out, HD.out, HN.out, H2.out]), below_alloc _ _⟩
    · have hneq : ((n : Int) != d) = true := by simpa using hne
      go_enter Tryz.func145, Tryz.ntmps145
      go_wp2_with fail
      refine (within_is _ _ _ _ _ _ [d] _ _ H1.out (one_ints w d) (by decide)).mono ?_
      rintro e w' ⟨rfl, rfl⟩
      go_wp2
      go_ret
      exact ⟨ret_i64 (by simp [pf, HL.out, HD.out, hne]), below_alloc _ _⟩
  · have H1 := Lib.hid (show allIn 2 3 [d] = false by rw [allIn_one, Bool.and_eq_false_iff]; simp only [decide_eq_false_iff_not]; omega)
    have HD := Lib.hid hd
    clear hd
    go_enter Tryz.func145, Tryz.ntmps145
    go_wp2_with fail
    refine (within_is _ _ _ _ _ _ [d] _ _ H1.out (one_ints w d) (by decide)).mono ?_
    rintro e w' ⟨rfl, rfl⟩
    go_wp2
    go_ret
    exact ⟨ret_i64 (by simp [pf, HD.out]), below_alloc _ _⟩

end Go.Proofs.YtpgoildfjkokiaaGreat

/- The walks of the laws' own helpers on a slice of numbers: laws.toInt64S (a copy in new memory), laws.eqInt64S, laws.szInt64S. For every slice that reads as numbers. -/
namespace Go.Proofs.YtpgoildfjkokiaaGreat
open Go.RowKit

/-- Block g is a row of the call's own that holds just the numbers xs. -/
def Own (w : World) (g n : Nat) (xs : List Int) : Prop := xs.length = n ∧ w.rowIs g 2 n (fun j => .int .i64 (xs.getD j 0))

theorem Own.ints {w : World} {g n : Nat} {xs : List Int} (h : Own w g n xs) {lo : Nat} (hlo : lo ≤ g) : Ints w lo (some ⟨g, 0, none⟩) n xs := by
  obtain ⟨hl, hr⟩ := h
  refine ⟨hl, fun _ => ⟨g, 0, rfl, hlo, hr.lt, fun k x hk => ?_⟩⟩
  have hkn : k < n := by rw [← hl]; exact (List.getElem?_eq_some_iff.1 hk).1
  rw [Nat.zero_add, hr.cell hkn]
  simp [hk]

theorem Own.kept {w w' : World} {g n : Nat} {xs : List Int} (h : Own w g n xs) (hb : Below w.heap.size w w') : Own w' g n xs := ⟨h.1, h.2.of_block (hb.block g h.2.lt)⟩

theorem info_i64 : (Tryz.prog.info? 2).map (fun i => (i.zero, i.size, i.bytes)) = some (some (.int .i64 0), 1, 8) := by kernel_rfl

/-- What is copied behind k rounds. -/
def half (xs : List Int) (k j : Nat) : Value := .int .i64 (if j < k then xs.getD j 0 else 0)

theorem half_next {xs : List Int} {k : Nat} {x : Int} (hx : xs[k]? = some x) (j : Nat) : (if j = k then .int .i64 x else half xs k j) = half xs (k + 1) j := by
  unfold half
  by_cases h : j = k
  · subst h; simp [hx]
  · rw [if_neg h]
    by_cases h2 : j < k
    · rw [if_pos h2, if_pos (by omega)]
    · rw [if_neg h2, if_neg (by omega)]

set_option maxHeartbeats 400000 in
theorem toInt64S_any (lo n c : Nat) (A : Option Addr) (xs : List Int) (w : World) (hx : Ints w lo A n xs) (hn : n ≤ 1048576) :
    Calls Tryz.prog 22 #[.slice A n c] w fun e w' => e = .returned (.slice (some ⟨w.heap.size, 0, none⟩) n n) ∧ Own w' w.heap.size n xs ∧ Below w.heap.size w w' := by
  have HL := Lib.hid hx.1
  have hmk := fun W => run_make_row' (P := Tryz.prog) 23 2 (.int .i64 0) 8 Tryz.underlying23 info_i64 rfl .i64 .i64 n (by omega) (by omega) W
  go_enter Tryz.func22, Tryz.ntmps22
  go_wp2
  clear hmk
  go_loopw [4] (fun i wr => ∃ k : Nat, k ≤ n ∧ i = .int .i64 k ∧ Below w.heap.size w wr ∧ Hid (wr.rowIs w.heap.size 2 n (half xs k))) (fun i _ => n - (intOf i).toNat)
  case atStart => exact ⟨0, Nat.zero_le _, rfl, below_alloc _ _, (World.rowIs_made w _ n _).congr fun i _ => by simp [half]⟩
  case round =>
    obtain ⟨k, hk, rfl, hb, hrow⟩ := hrel
    by_cases hlt : k < n
    · obtain ⟨b, o, x, rfl, _, hbw, hc, hxk⟩ := hx.cellAt hlt
      have hc' : wr.cell? ⟨b, o + k, none⟩ = some (.int .i64 x) := (hb.cell (p := ⟨b, o + k, none⟩) hbw).trans hc
      have hg : wr.cell? ⟨w.heap.size, k, none⟩ = some (half xs k k) := hrow.out.cell hlt
      have hf : wr.frozen? ⟨w.heap.size, k, none⟩ = false := hrow.out.frozen k
      have hrow' := Lib.hid ((hrow.out.set k (.int .i64 x)).congr fun j _ => half_next hxk.out j)
      have hb' := hb.setCell (p := ⟨w.heap.size, k, none⟩) (Nat.le_refl _) (.int .i64 x)
      clear hb hx hrow hc
      go_wp2
      go_roundw
      case rel => exact ⟨k + 1, by omega, by go_num, hb', hrow'⟩
      case measure => simp [intOf]; omega
    · have hO : Own wr w.heap.size n xs := ⟨HL.out, hrow.out.congr fun i hi => by simp [half, show i < k by omega]⟩
      go_wp2
      go_ret
      exact ⟨rfl, hO, hb⟩

theorem toInt64S_new (lo n c : Nat) (A : Option Addr) (xs : List Int) (w : World) (hx : Ints w lo A n xs) (hn : n ≤ 1048576) :
    Calls Tryz.prog 22 #[.slice A n c] w fun e w' => ∃ g, e = .returned (.slice (some ⟨g, 0, none⟩) n n) ∧ w.heap.size ≤ g ∧ Own w' g n xs ∧ Below w.heap.size w w' :=
  (toInt64S_any lo n c A xs w hx hn).mono fun _ _ h => ⟨_, h.1, Nat.le_refl _, h.2⟩

theorem take_next {xs ys : List Int} {k : Nat} {x : Int} (hx : xs[k]? = some x) (hy : ys[k]? = some x) (h : xs.take k = ys.take k) : xs.take (k + 1) = ys.take (k + 1) := by
  rw [List.take_add_one, List.take_add_one, hx, hy, h]
theorem ne_at {xs ys : List Int} {k : Nat} {x y : Int} (hx : xs[k]? = some x) (hy : ys[k]? = some y) (h : x ≠ y) : xs ≠ ys := by
  rintro rfl
  rw [hx] at hy
  injection hy with e
  exact h e

set_option maxHeartbeats 400000 in
theorem eqInt64S_any (lo n c lo' m c' : Nat) (A A' : Option Addr) (xs ys : List Int) (w : World) (hx : Ints w lo A n xs) (hy : Ints w lo' A' m ys) (hn : n ≤ maxLen) :
    Calls Tryz.prog 25 #[.slice A n c, .slice A' m c'] w fun e w' => e = .returned (.bool (decide (xs = ys))) ∧ ∃ q, w' = w.drewN q := by
  unfold maxLen at hn
  have HL := Lib.hid hx.1
  have HM := Lib.hid hy.1
  by_cases hnm : n = m
  · subst hnm
    go_enter Tryz.func25, Tryz.ntmps25
    go_wp2
    go_loopw [5] (fun i wr => ∃ k q : Nat, k ≤ n ∧ i = .int .i64 k ∧ wr = w.drewN q ∧ Hid (xs.take k = ys.take k)) (fun i _ => n - (intOf i).toNat)
    case atStart => exact ⟨0, 0, Nat.zero_le _, rfl, rfl, rfl⟩
    case round =>
      obtain ⟨k, q, hk, rfl, rfl, heq⟩ := hrel
      by_cases hlt : k < n
      · obtain ⟨b, o, x, rfl, _, hbw, hc, hxk⟩ := hx.cellAt hlt
        obtain ⟨b', o', y, rfl, _, hbw', hc', hyk⟩ := hy.cellAt hlt
        clear hx hy
        by_cases hxy : x = y
        · subst hxy
          have HT := Lib.hid (take_next hxk.out hyk.out heq.out)
          have h1 : (x != x) = false := by simp
          go_wp2
          go_quiet (fail)
          go_wp2
          go_roundw
          case rel => exact ⟨k + 1, q + nq, by omega, by go_num, by simp, HT⟩
          case measure => simp [intOf]; omega
        · have HT := Lib.hid (ne_at hxk.out hyk.out hxy)
          have h1 : (x != y) = true := by simpa using hxy
          clear hxy
          go_wp2
          go_quiet (fail)
          go_wp2
          go_ret
          exact ⟨ret_bool (decide_eq_false HT.out).symm, _, World.drewN_drewN _ _ _⟩
      · have HT : Hid (xs = ys) := by
          have h := heq.out
          rwa [List.take_of_length_le (by rw [HL.out]; omega), List.take_of_length_le (by rw [HM.out]; omega)] at h
        go_wp2
        go_ret
        exact ⟨ret_bool (decide_eq_true HT.out).symm, _, rfl⟩
  · have h1 : ((n : Int) != (m : Int)) = true := by rw [bne_iff_ne]; omega
    have HT := Lib.hid (show xs ≠ ys from fun e => hnm (by rw [← HL.out, ← HM.out, e]))
    clear hnm
    go_enter Tryz.func25, Tryz.ntmps25
    go_wp2
    go_ret
    exact ⟨ret_bool (decide_eq_false HT.out).symm, 0, rfl⟩

theorem eqInt64S_is (v : Bool) (lo n c lo' m c' : Nat) (A A' : Option Addr) (xs ys : List Int) (w : World) (hv : decide (xs = ys) = v) (hx : Ints w lo A n xs) (hy : Ints w lo' A' m ys) (hn : n ≤ maxLen) :
    Calls Tryz.prog 25 #[.slice A n c, .slice A' m c'] w fun e w' => e = .returned (.bool v) ∧ ∃ q, w' = w.drewN q := hv ▸ eqInt64S_any lo n c lo' m c' A A' xs ys w hx hy hn

end Go.Proofs.YtpgoildfjkokiaaGreat

/- The walks of spec.RectFault and impl.RectFault, and of laws.toRect, laws.eqRect, laws.szRect: for every box whose two points read as numbers. -/
namespace Go.Proofs.YtpgoildfjkokiaaGreat
open Go.RowKit

/-- In each dimension Low is not above High. -/
def leAll (xs ys : List Int) : Bool := (xs.zip ys).all fun p => decide (p.1 ≤ p.2)
/-- What is wrong with a box. -/
def rf (xs ys : List Int) (d : Int) : Int := if pf xs d ≠ 0 then pf xs d else if pf ys d ≠ 0 then pf ys d else if leAll xs ys then 0 else 1

theorem pf_zero {xs : List Int} {d : Int} (h : pf xs d = 0) : (2 ≤ d ∧ d ≤ 3) ∧ (xs.length : Int) = d ∧ allIn (-1000) 1000 xs = true := by
  unfold pf at h
  by_cases h1 : 2 ≤ d ∧ d ≤ 3
  · rw [if_pos h1] at h
    by_cases h2 : (xs.length : Int) = d
    · rw [if_pos h2] at h
      by_cases h3 : allIn (-1000) 1000 xs = true
      · exact ⟨h1, h2, h3⟩
      · rw [if_neg h3] at h; omega
    · rw [if_neg h2] at h; omega
  · rw [if_neg h1] at h; omega

theorem zip_at {xs ys : List Int} {k : Nat} {x y : Int} (hx : xs[k]? = some x) (hy : ys[k]? = some y) : (xs.zip ys)[k]? = some (x, y) := by
  rw [List.getElem?_zip_eq_some]; exact ⟨hx, hy⟩

theorem leAll_next {xs ys : List Int} {k : Nat} {x y : Int} (hx : xs[k]? = some x) (hy : ys[k]? = some y) (h : (((xs.zip ys).take k).all fun p => decide (p.1 ≤ p.2)) = true) (hxy : x ≤ y) :
    (((xs.zip ys).take (k + 1)).all fun p => decide (p.1 ≤ p.2)) = true := by
  rw [List.take_add_one, zip_at hx hy, List.all_append, h]
  simpa using hxy
theorem leAll_false {xs ys : List Int} {k : Nat} {x y : Int} (hx : xs[k]? = some x) (hy : ys[k]? = some y) (hxy : ¬ x ≤ y) : leAll xs ys = false := by
  unfold leAll
  rw [List.all_eq_false]
  exact ⟨(x, y), List.mem_of_getElem? (zip_at hx hy), by simpa using hxy⟩

set_option maxHeartbeats 800000 in
theorem specRectFault_any (d : Int) (lo n c lo' n' c' : Nat) (A A' : Option Addr) (xs ys : List Int) (w : World) (hx : Ints w lo A n xs) (hy : Ints w lo' A' n' ys) (hn : n ≤ maxLen) (hn' : n' ≤ maxLen) :
    Calls Tryz.prog 127 #[.agg #[.slice A n c, .slice A' n' c'], .int .i64 d] w fun e w' => e = .returned (.int .i64 (rf xs ys d)) ∧ Below w.heap.size w w' := by
  have HL := Lib.hid hx.1
  have HL' := Lib.hid hy.1
  have HX := Lib.hid (hx.kept (below_alloc w (.cells #[.slice A n c, .slice A' n' c'] 148)))
  have HY := Lib.hid (hy.kept (below_alloc w (.cells #[.slice A n c, .slice A' n' c'] 148)))
  clear hx hy
  by_cases h1 : pf xs d = 0
  · have hne1 : (pf xs d != 0) = false := by simp [h1]
    by_cases h2 : pf ys d = 0
    · have hne2 : (pf ys d != 0) = false := by simp [h2]
      have HR : Hid (rf xs ys d = if leAll xs ys then 0 else 1) := by show rf xs ys d = _; simp [rf, h1, h2]
      have hnn : (n : Int) = d := by rw [← HL.out]; exact (pf_zero h1).2.1
      have hnn' : (n' : Int) = d := by rw [← HL'.out]; exact (pf_zero h2).2.1
      have hnd : n = n' := by omega
      subst hnd
      have hn3 : n ≤ 3 := by have := (pf_zero h1).1; omega
      have H1 := Lib.hid h1
      have H2 := Lib.hid h2
      clear h1 h2 hnn hnn'
      go_enter Tryz.func127, Tryz.ntmps127
      go_wp2_with fail
      refine (specPointFault_any _ _ _ _ _ xs _ HX.out hn).mono ?_
      rintro e w' ⟨rfl, rfl⟩
      go_wp2_with fail
      refine (specPointFault_any _ _ _ _ _ ys _ HY.out hn').mono ?_
      rintro e w' ⟨rfl, rfl⟩
      go_wp2_with fail
      go_loopw [7] (fun i wr => ∃ k q : Nat, k ≤ n ∧ i = .int .i64 k ∧ wr = (w.alloc (.cells #[.slice A n c, .slice A' n c'] 148)).drewN q ∧ Hid ((((xs.zip ys).take k).all fun p => decide (p.1 ≤ p.2)) = true)) (fun i _ => n - (intOf i).toNat)
      case atStart => exact ⟨0, 0, Nat.zero_le _, rfl, rfl, rfl⟩
      case round =>
        obtain ⟨k, q, hk, rfl, rfl, heq⟩ := hrel
        by_cases hlt : k < n
        · obtain ⟨b, o, x, rfl, _, hbw, hc, hxk⟩ := HX.out.cellAt hlt
          obtain ⟨b', o', y, rfl, _, hbw', hc', hyk⟩ := HY.out.cellAt hlt
          by_cases hxy : x ≤ y
          · have HT := Lib.hid (leAll_next hxk.out hyk.out heq.out hxy)
            go_wp2
            go_quiet (fail)
            go_wp2
            go_roundw
            case rel => exact ⟨k + 1, q + nq, by omega, by go_num, by simp, HT⟩
            case measure => simp [intOf]; omega
          · have HT := Lib.hid (leAll_false hxk.out hyk.out hxy)
            go_wp2
            go_quiet (fail)
            go_wp2
            go_ret
            exact ⟨ret_i64 (by rw [HR.out, HT.out]; rfl), below_draws (below_draws (below_alloc _ _) _) _⟩
        · have HT : Hid (leAll xs ys = true) := by
            have h := heq.out
            rwa [List.take_of_length_le (by rw [List.length_zip, HL.out, HL'.out]; omega)] at h
          go_wp2
          go_ret
          exact ⟨ret_i64 (by rw [HR.out, HT.out]; rfl), below_draws (below_alloc _ _) _⟩
    · have hne2 : (pf ys d != 0) = true := by simpa using h2
      have HR : Hid (rf xs ys d = pf ys d) := by show rf xs ys d = _; simp [rf, h1, h2]
      clear h1 h2
      go_enter Tryz.func127, Tryz.ntmps127
      go_wp2_with fail
      refine (specPointFault_any _ _ _ _ _ xs _ HX.out hn).mono ?_
      rintro e w' ⟨rfl, rfl⟩
      go_wp2_with fail
      refine (specPointFault_any _ _ _ _ _ ys _ HY.out hn').mono ?_
      rintro e w' ⟨rfl, rfl⟩
      go_wp2
      go_ret
      exact ⟨ret_i64 HR.out.symm, below_alloc _ _⟩
  · have hne1 : (pf xs d != 0) = true := by simpa using h1
    have HR : Hid (rf xs ys d = pf xs d) := by show rf xs ys d = _; simp [rf, h1]
    clear h1
    go_enter Tryz.func127, Tryz.ntmps127
    go_wp2_with fail
    refine (specPointFault_any _ _ _ _ _ xs _ HX.out hn).mono ?_
    rintro e w' ⟨rfl, rfl⟩
    go_wp2
    go_ret
    exact ⟨ret_i64 HR.out.symm, below_alloc _ _⟩

set_option maxHeartbeats 800000 in
theorem implRectFault_any (d : Int) (lo n c lo' n' c' : Nat) (A A' : Option Addr) (xs ys : List Int) (w : World) (hx : Ints w lo A n xs) (hy : Ints w lo' A' n' ys) (hn : n ≤ maxLen) (hn' : n' ≤ maxLen) :
    Calls Tryz.prog 141 #[.agg #[.slice A n c, .slice A' n' c'], .int .i64 d] w fun e w' => e = .returned (.int .i64 (rf xs ys d)) ∧ Below w.heap.size w w' := by
  have HL := Lib.hid hx.1
  have HL' := Lib.hid hy.1
  have B0 := Lib.hid (below_alloc w (.cells #[.slice A n c, .slice A' n' c'] 148))
  have HX := Lib.hid (hx.kept B0.out)
  have HY := Lib.hid (hy.kept B0.out)
  clear hx hy
  by_cases h1 : pf xs d = 0
  · have hne1 : (pf xs d != 0) = false := by simp [h1]
    by_cases h2 : pf ys d = 0
    · have hne2 : (pf ys d != 0) = false := by simp [h2]
      have HR : Hid (rf xs ys d = if leAll xs ys then 0 else 1) := by show rf xs ys d = _; simp [rf, h1, h2]
      have hnn : (n : Int) = d := by rw [← HL.out]; exact (pf_zero h1).2.1
      have hnn' : (n' : Int) = d := by rw [← HL'.out]; exact (pf_zero h2).2.1
      have hnd : n = n' := by omega
      subst hnd
      have hn3 : n ≤ 3 := by have := (pf_zero h1).1; omega
      have H1 := Lib.hid h1
      have H2 := Lib.hid h2
      clear h1 h2 hnn hnn'
      go_enter Tryz.func141, Tryz.ntmps141
      go_wp2_with fail
      refine (implPointFault_any _ _ _ _ _ xs _ HX.out hn).mono ?_
      rintro e W1 ⟨rfl, b1⟩
      have B1 := Lib.hid b1
      clear b1
      have c0 : W1.cell? ⟨w.heap.size, 0, none⟩ = some (.slice A n c) := (B1.out.cell (p := ⟨w.heap.size, 0, none⟩) (by simp)).trans (cell_new w _ _ 0)
      have c1 : W1.cell? ⟨w.heap.size, 1, none⟩ = some (.slice A' n c') := (B1.out.cell (p := ⟨w.heap.size, 1, none⟩) (by simp)).trans (cell_new w _ _ 1)
      go_wp2_with fail
      refine (implPointFault_any _ _ _ _ _ ys _ (HY.out.kept B1.out) hn').mono ?_
      rintro e W2 ⟨rfl, b2⟩
      have B2 := Lib.hid b2
      clear b2
      have hsz : w.heap.size < W1.heap.size := by have := B1.out.size; simp at this; omega
      have d0 : W2.cell? ⟨w.heap.size, 0, none⟩ = some (.slice A n c) := (B2.out.cell (p := ⟨w.heap.size, 0, none⟩) hsz).trans c0
      have d1 : W2.cell? ⟨w.heap.size, 1, none⟩ = some (.slice A' n c') := (B2.out.cell (p := ⟨w.heap.size, 1, none⟩) hsz).trans c1
      have HX2 := Lib.hid ((HX.out.kept B1.out).kept B2.out)
      have HY2 := Lib.hid ((HY.out.kept B1.out).kept B2.out)
      have BE : Hid (Below w.heap.size w W2) := (B0.out.trans (B1.out.mono (by simp))).trans (B2.out.mono (by omega))
      clear c0 c1 B0 B1 B2 HX HY hsz
      go_wp2_with fail
      go_loopw [25] (fun i wr => ∃ k q : Nat, k ≤ n ∧ i = .int .i64 k ∧ wr = W2.drewN q ∧ Hid ((((xs.zip ys).take k).all fun p => decide (p.1 ≤ p.2)) = true)) (fun i _ => n - (intOf i).toNat)
      case atStart => exact ⟨0, 0, Nat.zero_le _, rfl, rfl, rfl⟩
      case round =>
        obtain ⟨k, q, hk, rfl, rfl, heq⟩ := hrel
        by_cases hlt : k < n
        · obtain ⟨b, o, x, rfl, _, hbw, hc, hxk⟩ := HX2.out.cellAt hlt
          obtain ⟨b', o', y, rfl, _, hbw', hc', hyk⟩ := HY2.out.cellAt hlt
          by_cases hxy : x ≤ y
          · have HT := Lib.hid (leAll_next hxk.out hyk.out heq.out hxy)
            go_wp2
            go_quiet (fail)
            go_wp2
            go_roundw
            case rel => exact ⟨k + 1, q + nq, by omega, by go_num, by simp, HT⟩
            case measure => simp [intOf]; omega
          · have HT := Lib.hid (leAll_false hxk.out hyk.out hxy)
            go_wp2
            go_quiet (fail)
            go_wp2
            go_ret
            exact ⟨ret_i64 (by rw [HR.out, HT.out]; rfl), below_draws (below_draws BE.out _) _⟩
        · have HT : Hid (leAll xs ys = true) := by
            have h := heq.out
            rwa [List.take_of_length_le (by rw [List.length_zip, HL.out, HL'.out]; omega)] at h
          go_wp2
          go_ret
          exact ⟨ret_i64 (by rw [HR.out, HT.out]; rfl), below_draws BE.out _⟩
    · have hne2 : (pf ys d != 0) = true := by simpa using h2
      have HR : Hid (rf xs ys d = pf ys d) := by show rf xs ys d = _; simp [rf, h1, h2]
      clear h1 h2
      go_enter Tryz.func141, Tryz.ntmps141
      go_wp2_with fail
      refine (implPointFault_any _ _ _ _ _ xs _ HX.out hn).mono ?_
      rintro e W1 ⟨rfl, b1⟩
      have B1 := Lib.hid b1
      clear b1
      have c1 : W1.cell? ⟨w.heap.size, 1, none⟩ = some (.slice A' n' c') := (B1.out.cell (p := ⟨w.heap.size, 1, none⟩) (by simp)).trans (cell_new w _ _ 1)
      go_wp2_with fail
      refine (implPointFault_any _ _ _ _ _ ys _ (HY.out.kept B1.out) hn').mono ?_
      rintro e W2 ⟨rfl, b2⟩
      have BE : Hid (Below w.heap.size w W2) := (B0.out.trans (B1.out.mono (by simp))).trans (b2.mono (by have := B1.out.size; simp at this; omega))
      clear b2
      go_wp2
      go_ret
      exact ⟨ret_i64 HR.out.symm, BE.out⟩
  · have hne1 : (pf xs d != 0) = true := by simpa using h1
    have HR : Hid (rf xs ys d = pf xs d) := by show rf xs ys d = _; simp [rf, h1]
    clear h1
    go_enter Tryz.func141, Tryz.ntmps141
    go_wp2_with fail
    refine (implPointFault_any _ _ _ _ _ xs _ HX.out hn).mono ?_
    rintro e W1 ⟨rfl, b1⟩
    have BE : Hid (Below w.heap.size w W1) := B0.out.trans (b1.mono (by simp))
    clear b1
    go_wp2
    go_ret
    exact ⟨ret_i64 HR.out.symm, BE.out⟩

/-! ### The laws' helpers on boxes -/

theorem szInt64S_no (n c : Nat) (A : Option Addr) (l : Int) (w : World) (h0 : 0 ≤ l) (h1 : l ≤ 1048576) (hn : n ≤ maxLen) (h : l < n) :
    Calls Tryz.prog 42 #[.slice A n c, .int .i64 l] w fun e w' => e = .returned (.int .i64 (-1)) ∧ w = w' := by
  unfold maxLen at hn
  go_enter Tryz.func42, Tryz.ntmps42
  go_wp2
  go_ret
  exact ⟨rfl, rfl⟩
theorem szInt64S_yes (n c : Nat) (A : Option Addr) (l : Int) (w : World) (h0 : 0 ≤ l) (h1 : l ≤ 1048576) (hn : n ≤ maxLen) (h : n ≤ l) :
    Calls Tryz.prog 42 #[.slice A n c, .int .i64 l] w fun e w' => e = .returned (.int .i64 (l - n)) ∧ w = w' := by
  unfold maxLen at hn
  go_enter Tryz.func42, Tryz.ntmps42
  go_wp2
  go_ret
  exact ⟨rfl, rfl⟩

set_option maxHeartbeats 400000 in
theorem szRect_no (n c n' c' : Nat) (A A' : Option Addr) (l : Int) (w : World) (h0 : 0 ≤ l) (h1 : l ≤ 1048576) (hn : n ≤ maxLen) (hn' : n' ≤ maxLen) (h : l < n + n') :
    Calls Tryz.prog 135 #[.agg #[.slice A n c, .slice A' n' c'], .int .i64 l] w fun e w' => e = .returned (.int .i64 (-1)) ∧ Below w.heap.size w w' := by
  by_cases hh : l < n
  · go_enter Tryz.func135, Tryz.ntmps135
    go_wp2_with fail
    refine (szInt64S_no _ _ _ _ _ h0 h1 hn hh).mono ?_
    rintro e w' ⟨rfl, rfl⟩
    go_wp2
    go_ret
    exact ⟨rfl, below_alloc _ _⟩
  · have hk : ¬ (l - n < 0) := by omega
    go_enter Tryz.func135, Tryz.ntmps135
    go_wp2_with fail
    refine (szInt64S_yes _ _ _ _ _ h0 h1 hn (by omega)).mono ?_
    rintro e w' ⟨rfl, rfl⟩
    go_wp2_with fail
    refine (szInt64S_no _ _ _ _ _ (by omega) (by omega) hn' (by omega)).mono ?_
    rintro e w' ⟨rfl, rfl⟩
    go_wp2
    go_ret
    exact ⟨rfl, below_alloc _ _⟩
set_option maxHeartbeats 400000 in
theorem szRect_yes (n c n' c' : Nat) (A A' : Option Addr) (l : Int) (w : World) (h1 : l ≤ 1048576) (hn : n ≤ maxLen) (hn' : n' ≤ maxLen) (h : n + n' ≤ l) :
    Calls Tryz.prog 135 #[.agg #[.slice A n c, .slice A' n' c'], .int .i64 l] w fun e w' => e = .returned (.int .i64 (l - n - n')) ∧ Below w.heap.size w w' := by
  have hk : ¬ (l - n < 0) := by omega
  have hk2 : ¬ (l - n - n' < 0) := by omega
  go_enter Tryz.func135, Tryz.ntmps135
  go_wp2_with fail
  refine (szInt64S_yes _ _ _ _ _ (by omega) h1 hn (by omega)).mono ?_
  rintro e w' ⟨rfl, rfl⟩
  go_wp2_with fail
  refine (szInt64S_yes _ _ _ _ _ (by omega) (by omega) hn' (by omega)).mono ?_
  rintro e w' ⟨rfl, rfl⟩
  go_wp2
  go_ret
  exact ⟨rfl, below_alloc _ _⟩

set_option maxHeartbeats 400000 in
theorem eqRect_is (v : Bool) (n1 c1 n2 c2 n3 c3 n4 c4 lo1 lo2 lo3 lo4 : Nat) (A1 A2 A3 A4 : Option Addr) (x1 x2 x3 x4 : List Int) (w : World) (hv : (decide (x1 = x3) && decide (x2 = x4)) = v)
    (h1 : Ints w lo1 A1 n1 x1) (h2 : Ints w lo2 A2 n2 x2) (h3 : Ints w lo3 A3 n3 x3) (h4 : Ints w lo4 A4 n4 x4) (m1 : n1 ≤ maxLen) (m2 : n2 ≤ maxLen) :
    Calls Tryz.prog 132 #[.agg #[.slice A1 n1 c1, .slice A2 n2 c2], .agg #[.slice A3 n3 c3, .slice A4 n4 c4]] w fun e w' => e = .returned (.bool v) ∧ Below w.heap.size w w' := by
  have B : Hid (Below w.heap.size w ((w.alloc (.cells #[.slice A1 n1 c1, .slice A2 n2 c2] 148)).alloc (.cells #[.slice A3 n3 c3, .slice A4 n4 c4] 148))) := (below_alloc _ _).alloc (by simp) _
  have H1 := Lib.hid (h1.kept B.out)
  have H2 := Lib.hid (h2.kept B.out)
  have H3 := Lib.hid (h3.kept B.out)
  have H4 := Lib.hid (h4.kept B.out)
  clear h1 h2 h3 h4
  cases e1 : decide (x1 = x3)
  · have E1 := Lib.hid e1
    have hvf : v = false := by rw [← hv, e1]; rfl
    subst hvf
    clear e1 hv
    go_enter Tryz.func132, Tryz.ntmps132
    go_wp2_with fail
    refine (eqInt64S_is false _ _ _ _ _ _ _ _ x1 x3 _ E1.out H1.out H3.out m1).mono ?_
    rintro e w' ⟨rfl, q, rfl⟩
    go_wp2
    go_ret
    exact ⟨rfl, below_draws B.out _⟩
  · have E1 := Lib.hid e1
    have E2 : Hid (decide (x2 = x4) = v) := by show decide (x2 = x4) = v; rw [← hv, e1]; simp
    clear e1 hv
    go_enter Tryz.func132, Tryz.ntmps132
    go_wp2_with fail
    refine (eqInt64S_is true _ _ _ _ _ _ _ _ x1 x3 _ E1.out H1.out H3.out m1).mono ?_
    rintro e w' ⟨rfl, q, rfl⟩
    go_wp2_with fail
    refine (eqInt64S_is v _ _ _ _ _ _ _ _ x2 x4 _ E2.out (H2.out.kept (below_draws (Below.refl _ _) q)) (H4.out.kept (below_draws (Below.refl _ _) q)) m2).mono ?_
    rintro e w' ⟨rfl, q', rfl⟩
    cases v
    · go_wp2
      go_ret
      exact ⟨rfl, below_draws B.out _⟩
    · go_wp2
      go_ret
      exact ⟨rfl, below_draws B.out _⟩


theorem Own.drew {w : World} {g n : Nat} {xs : List Int} (h : Own w g n xs) : Own w.drew g n xs := h
theorem Own.inside {w : World} {g n : Nat} {xs : List Int} (h : Own w g n xs) : g < w.heap.size := h.2.lt
theorem Own.far {w : World} {g n : Nat} {xs : List Int} (h : Own w g n xs) {a : Addr} (hne : g ≠ a.block) (v : Value) : Own (w.setCell a v) g n xs := ⟨h.1, h.2.setOther hne v⟩

set_option maxHeartbeats 800000 in
theorem toRect_any (n c n' c' lo lo' : Nat) (A A' : Option Addr) (xs ys : List Int) (w : World) (hx : Ints w lo A n xs) (hy : Ints w lo' A' n' ys) (hn : n ≤ 1048576) (hn' : n' ≤ 1048576) :
    Calls Tryz.prog 138 #[.agg #[.slice A n c, .slice A' n' c']] w fun e w' => ∃ g g', e = .returned (.agg #[.slice (some ⟨g, 0, none⟩) n n, .slice (some ⟨g', 0, none⟩) n' n']) ∧
      Own w' g n xs ∧ Own w' g' n' ys ∧ w.heap.size ≤ g ∧ g < g' ∧ Below w.heap.size w w' := by
  have B0 : Hid (Below w.heap.size w (((w.alloc (.cells #[.slice A n c, .slice A' n' c'] 169)).alloc (.cells #[.slice none 0 0, .slice none 0 0] 148)).alloc (.cells #[.slice none 0 0, .slice none 0 0] 148))) :=
    ((below_alloc _ _).alloc (by simp) _).alloc (by simp; omega) _
  have HX := Lib.hid hx
  have HY := Lib.hid hy
  clear hx hy
  have L0 := Lib.hid (((Lies.new w 169 #[.slice A n c, .slice A' n' c']).alloc (.cells #[.slice none 0 0, .slice none 0 0] 148)).alloc (.cells #[.slice none 0 0, .slice none 0 0] 148))
  have L1 := Lib.hid ((Lies.new (w.alloc (.cells #[.slice A n c, .slice A' n' c'] 169)) 148 #[.slice none 0 0, .slice none 0 0]).alloc (.cells #[.slice none 0 0, .slice none 0 0] 148))
  have L2 := Lib.hid (Lies.new ((w.alloc (.cells #[.slice A n c, .slice A' n' c'] 169)).alloc (.cells #[.slice none 0 0, .slice none 0 0] 148)) 148 #[.slice none 0 0, .slice none 0 0])
  simp only [World.size_alloc] at L1 L2
  go_enter Tryz.func138, Tryz.ntmps138
  go_wp2_with fail
  refine (toInt64S_new _ _ _ _ _ _ (HX.out.kept B0.out) hn).mono ?_
  rintro e W1 ⟨g, rfl, hg, o1, b1⟩
  simp only [World.size_alloc] at hg b1
  replace L0 := Lib.hid (L0.out.kept b1 (by omega))
  replace L1 := Lib.hid (L1.out.kept b1 (by omega))
  replace L2 := Lib.hid (L2.out.kept b1 (by omega))
  have B1 := Lib.hid (B0.out.trans (b1.mono (by omega)))
  have O1 := Lib.hid o1
  clear b1 o1
  have cA : W1.cell? ⟨w.heap.size, 1, none⟩ = some (.slice A' n' c') := L0.out.cell 1
  have cB : W1.cell? ⟨w.heap.size + 1 + 1, 0, none⟩ = some (.slice none 0 0) := L2.out.cell 0
  have fB : W1.frozen? ⟨w.heap.size + 1 + 1, 0, none⟩ = false := L2.out.thawed 0
  go_wp2_with fail
  clear cA cB fB
  have B2 := Lib.hid (B1.out.setCell (p := ⟨w.heap.size + 1 + 1, 0, none⟩) (by show w.heap.size ≤ w.heap.size + 1 + 1; omega) (.slice (some ⟨g, 0, none⟩) n n))
  refine (toInt64S_new _ _ _ _ _ _ (HY.out.kept B2.out) hn').mono ?_
  rintro e W2 ⟨g', rfl, hg', o2, b2⟩
  have hs1 : g < W1.heap.size := O1.out.inside
  have hsz : (W1.setCell ⟨w.heap.size + 1 + 1, 0, none⟩ (.slice (some ⟨g, 0, none⟩) n n)).heap.size = W1.heap.size := by simp [World.setCell]
  rw [hsz] at hg' b2
  clear hsz
  replace L1 := Lib.hid ((L1.out.far (a := ⟨w.heap.size + 1 + 1, 0, none⟩) (by simp) (.slice (some ⟨g, 0, none⟩) n n)).kept b2 L1.out.inside)
  replace L2 := Lib.hid ((L2.out.set 0 (.slice (some ⟨g, 0, none⟩) n n)).kept b2 L2.out.inside)
  replace O1 := Lib.hid ((O1.out.far (a := ⟨w.heap.size + 1 + 1, 0, none⟩) (by show g ≠ w.heap.size + 1 + 1; omega) (.slice (some ⟨g, 0, none⟩) n n)).kept (b2.mono (by simp [World.setCell])))
  have B3 := Lib.hid (B2.out.trans (b2.mono (by have := B1.out.size; omega)))
  have O2 := Lib.hid o2
  clear b2 o2 B0 B1 B2 L0 HX HY
  have cB0 : W2.cell? ⟨w.heap.size + 1 + 1, 0, none⟩ = some (.slice (some ⟨g, 0, none⟩) n n) := L2.out.cell 0
  have cB1 : W2.cell? ⟨w.heap.size + 1 + 1, 1, none⟩ = some (.slice none 0 0) := L2.out.cell 1
  have fB : W2.frozen? ⟨w.heap.size + 1 + 1, 1, none⟩ = false := L2.out.thawed 1
  have cC0 : W2.cell? ⟨w.heap.size + 1, 0, none⟩ = some (.slice none 0 0) := L1.out.cell 0
  have cC1 : W2.cell? ⟨w.heap.size + 1, 1, none⟩ = some (.slice none 0 0) := L1.out.cell 1
  have fC0 : W2.frozen? ⟨w.heap.size + 1, 0, none⟩ = false := L1.out.thawed 0
  have fC1 : W2.frozen? ⟨w.heap.size + 1, 1, none⟩ = false := L1.out.thawed 1
  go_wp2
  refine bodyPost_ret (v := .agg #[.slice (some ⟨g, 0, none⟩) n n, .slice (some ⟨g', 0, none⟩) n' n']) (by simp [results, Tryz.results138, go_sem, cC0, cC1]) rfl ⟨g, g', rfl, ?_, ?_, by omega, by omega, ?_⟩
  · exact ((O1.out.far (by show g ≠ w.heap.size + 1 + 1; omega) _).far (by show g ≠ w.heap.size + 1; omega) _).far (by show g ≠ w.heap.size + 1; omega) _
  · exact ((O2.out.far (by show g' ≠ w.heap.size + 1 + 1; omega) _).far (by show g' ≠ w.heap.size + 1; omega) _).far (by show g' ≠ w.heap.size + 1; omega) _
  · exact ((B3.out.setCell (by show w.heap.size ≤ w.heap.size + 1 + 1; omega) _).setCell (by show w.heap.size ≤ w.heap.size + 1; omega) _).setCell (by show w.heap.size ≤ w.heap.size + 1; omega) _

end Go.Proofs.YtpgoildfjkokiaaGreat
