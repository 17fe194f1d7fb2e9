/- The walk of spec.l1Two, and what two boxes without a fault are. -/
import Derived.Test.YtfpmbkfikfdmkaaCorners2
import Derived.Test.YtfpmbkfikfdmkaaLawRectFault
namespace Go.Proofs.Ytfpmbkfikfdmkaa
open Go.RowKit

/-- A box without a fault: two or three dimensions, numbers from -1000 to 1000, Low not above High. -/
structure Right (xs ys : List Int) (n : Nat) : Prop where
  len : xs.length = n
  len' : ys.length = n
  dim : n = 2 ∨ n = 3
  at_ : ∀ (k : Nat) (x y : Int), xs[k]? = some x → ys[k]? = some y → -1000 ≤ x ∧ x ≤ y ∧ y ≤ 1000

theorem allIn_at {l h : Int} {xs : List Int} (hp : allIn l h xs = true) {k : Nat} {x : Int} (hk : xs[k]? = some x) : l ≤ x ∧ x ≤ h := by
  unfold allIn at hp
  have := List.all_eq_true.1 hp x (List.mem_of_getElem? hk)
  simpa using this

theorem right_of_rf {xs ys : List Int} {n : Nat} (h : rf xs ys (n : Int) = 0) : Right xs ys n := by
  unfold rf at h
  by_cases h1 : pf xs (n : Int) = 0
  · by_cases h2 : pf ys (n : Int) = 0
    · rw [if_neg (by simpa using h1), if_neg (by simpa using h2)] at h
      cases h3 : leAll xs ys with
      | false => rw [h3] at h; simp at h
      | true =>
        obtain ⟨d1, l1, a1⟩ := pf_zero h1
        obtain ⟨d2, l2, a2⟩ := pf_zero h2
        refine ⟨by omega, by omega, by omega, fun k x y hx hy => ?_⟩
        have b1 := allIn_at a1 hx
        have b2 := allIn_at a2 hy
        unfold leAll at h3
        have b3 := List.all_eq_true.1 h3 _ (List.mem_of_getElem? (zip_at hx hy))
        simp at b3
        omega
    · rw [if_neg (by simpa using h1), if_pos h2] at h
      exact absurd h h2
  · rw [if_pos h1] at h
    exact absurd h h1

theorem right_of_rf2 {xs ys us vs : List Int} (h : rf2 xs ys us vs = 0) : Right xs ys xs.length ∧ Right us vs xs.length := by
  unfold rf2 at h
  by_cases h1 : rf xs ys (xs.length : Int) = 0
  · rw [if_neg (by simpa using h1)] at h
    exact ⟨right_of_rf h1, right_of_rf h⟩
  · rw [if_pos h1] at h
    exact absurd h h1

set_option maxHeartbeats 1600000 in
theorem l1Two_any (b1 b2 : Nat) (n1 c1 n2 c2 n3 c3 n4 c4 lo1 lo2 lo3 lo4 : Nat) (A1 A2 A3 A4 : Option Addr) (x1 x2 x3 x4 : List Int) (w : World)
    (hb1 : b1 < w.heap.size) (hb2 : b2 < w.heap.size) (ht : Two b1 b2 (.slice A1 n1 c1) (.slice A2 n2 c2) (.slice A3 n3 c3) (.slice A4 n4 c4) w)
    (h1 : Ints w lo1 A1 n1 x1) (h2 : Ints w lo2 A2 n2 x2) (h3 : Ints w lo3 A3 n3 x3) (h4 : Ints w lo4 A4 n4 x4) (m1 : n1 ≤ maxLen) (m2 : n2 ≤ maxLen) (m3 : n3 ≤ maxLen) (m4 : n4 ≤ maxLen) :
    Calls Try.prog 74 #[.pointer (some ⟨b1, 0, none⟩), .pointer (some ⟨b2, 0, none⟩)] w fun e w' => e = .returned (.int .i64 (rf2 x1 x2 x3 x4)) ∧ Below w.heap.size w w' := by
  have H1 := Lib.hid h1
  have H2 := Lib.hid h2
  have H3 := Lib.hid h3
  have H4 := Lib.hid h4
  have HL := Lib.hid h1.1
  have HT := Lib.hid ht
  have c0 : w.cell? ⟨b1, 0, none⟩ = some (.slice A1 n1 c1) ∧ w.cell? ⟨b1, 1, none⟩ = some (.slice A2 n2 c2) := ⟨ht.1, ht.2.1⟩
  clear h1 h2 h3 h4 ht
  by_cases hr : rf x1 x2 (n1 : Int) = 0
  case' pos =>
    have hne : (rf x1 x2 (n1 : Int) != 0) = false := by simp [hr]
    have HR : Hid (rf2 x1 x2 x3 x4 = rf x3 x4 (n1 : Int)) := by show rf2 x1 x2 x3 x4 = _; unfold rf2; rw [HL.out, hr]; simp
  case' neg =>
    have hne : (rf x1 x2 (n1 : Int) != 0) = true := by simpa using hr
    have HR : Hid (rf2 x1 x2 x3 x4 = rf x1 x2 (n1 : Int)) := by show rf2 x1 x2 x3 x4 = _; unfold rf2; rw [HL.out, if_pos hr]
  all_goals
    clear hr
    go_enter Try.func74, Try.ntmps74
    go_wp2
    go_region_held3 (fun w' => w'.cell? ⟨b1, 0, none⟩ = some (.slice A1 n1 c1) ∧ w'.cell? ⟨b1, 1, none⟩ = some (.slice A2 n2 c2))
      (first | (simp [go_sem, c0]; done) | with_reducible exact K1)
      (first
        | (go_at_call 64; refine (specRectFault_any _ _ _ _ _ _ _ _ _ x1 x2 _ (H1.out.kept (by exact (Below.refl _ _).drew)) (H2.out.kept (by exact (Below.refl _ _).drew)) m1 m2).mono ?_
           rintro e W1 ⟨rfl, b1d⟩
           have bb1 := below_drawn b1d
           have K1 : W1.cell? ⟨b1, 0, none⟩ = some (.slice A1 n1 c1) ∧ W1.cell? ⟨b1, 1, none⟩ = some (.slice A2 n2 c2) := ⟨(two_kept bb1 hb1 hb2 HT.out).1, (two_kept bb1 hb1 hb2 HT.out).2.1⟩
           clear b1d))
    go_wp2
  · go_ret
    exact ⟨ret_i64 HR.out.symm, bb1⟩
  have cc : W1.cell? ⟨b1, 0, none⟩ = some (.slice A1 n1 c1) ∧ W1.cell? ⟨b1, 1, none⟩ = some (.slice A2 n2 c2) ∧ W1.cell? ⟨b2, 0, none⟩ = some (.slice A3 n3 c3) ∧ W1.cell? ⟨b2, 1, none⟩ = some (.slice A4 n4 c4) := two_kept bb1 hb1 hb2 HT.out
  have BB := Lib.hid bb1
  clear K1 bb1 c0
  go_region_held3 (fun w' => w'.cell? ⟨b1, 0, none⟩ = some (.slice A1 n1 c1) ∧ w'.cell? ⟨b1, 1, none⟩ = some (.slice A2 n2 c2) ∧ w'.cell? ⟨b2, 0, none⟩ = some (.slice A3 n3 c3) ∧ w'.cell? ⟨b2, 1, none⟩ = some (.slice A4 n4 c4))
    (first | (simp [go_sem, cc]; done) | with_reducible exact K2)
    (first
      | (go_at_call 64; refine (specRectFault_any _ _ _ _ _ _ _ _ _ x3 x4 _ ((H3.out.kept BB.out).kept (by exact (Below.refl _ _).drew)) ((H4.out.kept BB.out).kept (by exact (Below.refl _ _).drew)) m3 m4).mono ?_
         rintro e W2 ⟨rfl, b2d⟩
         have bb2 := below_drawn b2d
         have K2 : W2.cell? ⟨b1, 0, none⟩ = some (.slice A1 n1 c1) ∧ W2.cell? ⟨b1, 1, none⟩ = some (.slice A2 n2 c2) ∧ W2.cell? ⟨b2, 0, none⟩ = some (.slice A3 n3 c3) ∧ W2.cell? ⟨b2, 1, none⟩ = some (.slice A4 n4 c4) := two_kept bb2 (Nat.lt_of_lt_of_le hb1 BB.out.size) (Nat.lt_of_lt_of_le hb2 BB.out.size) cc
         clear b2d))
  go_wp2
  go_ret
  exact ⟨ret_i64 HR.out.symm, BB.out.trans (bb2.mono BB.out.size)⟩

end Go.Proofs.Ytfpmbkfikfdmkaa
