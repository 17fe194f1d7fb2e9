/- The walk of spec.l2At: the place of a number among pairs. (FindPair's other walks are to follow.) -/
import Derived.Test.YtpgoildfjkokiabModelFault
namespace Go.Proofs.Ytpgoildfjkokiab
open Go.RowKit

set_option maxHeartbeats 1600000 in
theorem l2At_any (id : Int) (n c : Nat) (A : Option Addr) (ps : List PV) (w : World) (hp : Pairs w A n ps) (hn : n ≤ maxLen) :
    Calls Try.prog 15 #[.slice A n c, .int .i64 id] w fun e w' => ((e = .returned (.int .i64 (-1)) ∧ ∀ (k : Nat) (p : PV), ps[k]? = some p → p.id ≠ id) ∨ ∃ (k : Nat) (p : PV), e = .returned (.int .i64 k) ∧ k < n ∧ ps[k]? = some p ∧ p.id = id) ∧ Below w.heap.size w w' := by
  have HP := Lib.hid hp
  clear hp
  unfold maxLen at hn
  go_enter Try.func15, Try.ntmps15
  go_wp2
  go_loopw [5] (fun i wr => ∃ k : Nat, k ≤ n ∧ i = .int .i64 k ∧ Hid (Below w.heap.size w wr) ∧ Hid (∀ (j : Nat) (p : PV), j < k → ps[j]? = some p → p.id ≠ id)) (fun i _ => n - (intOf i).toNat)
  case atStart => exact ⟨0, Nat.zero_le _, rfl, Below.refl _ _, fun j p hj => absurd hj (Nat.not_lt_zero _)⟩
  case round =>
    obtain ⟨k, hk', rfl, hB, hA⟩ := hrel
    by_cases hlt : k < n
    · obtain ⟨b, o, id', A1, n1, c1, A2, n2, c2, x1, x2, rfl, hb, d0, d1, d2, hx, i1, i2, m1, m2⟩ := HP.out.cellAt hlt
      have e0 : wr.cell? ⟨b, o + k * 3, none⟩ = some (.int .i64 id') := (hB.out.cell (p := ⟨b, o + k * 3, none⟩) hb).trans d0
      clear d0 d1 d2 i1 i2
      by_cases hid : id' = id
      · have h1 : (id' == id) = true := by simpa using hid
        have HF := Lib.hid hid
        clear hid
        go_wp2
        go_ret
        exact ⟨Or.inr ⟨k, _, rfl, hlt, hx.out, HF.out⟩, hB.out⟩
      · have h1 : (id' == id) = false := by simpa using hid
        have hA' : Hid (∀ (j : Nat) (p : PV), j < k + 1 → ps[j]? = some p → p.id ≠ id) := by
          intro j p hj hp
          rcases Nat.lt_succ_iff_lt_or_eq.1 hj with h | h
          · exact hA.out j p h hp
          · subst h; rw [hx.out] at hp; injection hp with hp; subst hp; exact hid
        clear hA hid hx
        go_wp2
        go_roundw
        case rel => exact ⟨k + 1, by omega, by go_num, hB, hA'⟩
        case measure => simp [intOf]; omega
    · have HF : Hid (∀ (k : Nat) (p : PV), ps[k]? = some p → p.id ≠ id) := fun j p hp => hA.out j p (by have h1 := (List.getElem?_eq_some_iff.1 hp).1; have h2 := HP.out.1; omega) hp
      clear hA
      go_wp2
      go_ret
      exact ⟨Or.inl ⟨rfl, HF.out⟩, hB.out⟩

end Go.Proofs.Ytpgoildfjkokiab
