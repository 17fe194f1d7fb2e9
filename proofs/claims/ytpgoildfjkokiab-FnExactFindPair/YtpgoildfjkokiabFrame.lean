/- The bridge between a row's reading of its arguments and the words of my walks: a slice of numbers that is read as data reads as a list of numbers. No condition. -/
import Derived.Test.YtpgoildfjkokiabWords
import Derived.ProofKit
import Derived.OpenShut
import Derived.ShutString
import Derived.ChangeOld
import Derived.Below
import Derived.Lib.SmallJoins
namespace Go.Proofs.Ytpgoildfjkokiab
open Go.ChangeShapes Go.WideShapes Go.ChangeAt Go.RowKit Go.Joins

theorem ownKnobTry : ownKnob Try.prog.godebug = none := by kernel_rfl
theorem laidOutTry : laidOutB Try.prog = true := by kernel_rfl
theorem cellsI64 : Try.prog.cellsOf 2 = 1 := by kernel_rfl

theorem ints_of_trod {H : Type} {enc : TypeId × Value → H} {W : World} {fuel : Nat} {v : Value} {y : DataW H × List MemPlace}
    (h : DataW.trod enc Try.prog W 0 (fun _ => true) true fuel 24 [v] = some y) : ∃ A n c xs, v = .slice A n c ∧ Ints W 0 A n xs ∧ n ≤ maxLen := by
  rcases open_ints Try.underlying24 Try.underlying2 cellsI64 h with ⟨hcs, _⟩ | ⟨a, len, cap, zs, hcs, _, hl, hm, hz, _, hcell, _⟩
  · exact ⟨none, 0, 0, [], by simpa using hcs, Ints.empty _ _ _, Nat.zero_le _⟩
  · refine ⟨some a, len, cap, zs.take len, by simpa using hcs, ⟨?_, fun hp => ?_⟩, Nat.le_trans hl hm⟩
    · simp at hz; simp; omega
    · simp only [if_true] at hz
      obtain ⟨b, off, rfl, hc⟩ := ints_at hcell (by omega)
      refine ⟨b, off, rfl, Nat.zero_le _, ?_, fun k x hk => ?_⟩
      · exact block_lt_of_cell (a := ⟨b, off + 0, none⟩) (hc 0 (by omega))
      · have hk2 : k < len := by
          have := (List.getElem?_eq_some_iff.1 hk).1
          simp at this; omega
        rw [hc k (by omega)]
        rw [List.getElem?_take, if_pos hk2] at hk
        simp [hk]

theorem cellsRect : Try.prog.cellsOf 40 = 2 := by kernel_rfl

set_option maxRecDepth 100000 in
theorem rect_of_trod {H : Type} {enc : TypeId × Value → H} {W : World} {base : Nat} {v : Value} {d : DataW H} {p : List MemPlace} (hv : Value.okWide Try.prog W .any base 40 v)
    (h : DataW.Trod enc Try.prog W 0 (fun _ => true) true 40 v d p) :
    ∃ A n c A' n' c' xs ys, v = .agg #[.slice A n c, .slice A' n' c'] ∧ Ints W 0 A n xs ∧ Ints W 0 A' n' ys ∧ n ≤ maxLen ∧ n' ≤ maxLen := by
  obtain ⟨c0, c1, y0, y1, m, rfl, _, _, hy0, hy1⟩ := open_agg2 Try.underlying40 (by kernel_rfl) cellsRect hv h
  obtain ⟨A, n, c, xs, rfl, hx, hn⟩ := ints_of_trod hy0
  obtain ⟨A', n', c', ys, rfl, hy, hn'⟩ := ints_of_trod hy1
  exact ⟨A, n, c, A', n', c', xs, ys, rfl, hx, hy, hn, hn'⟩

theorem place_lt {H : Type} {enc : TypeId × Value → H} {W : World} {t : TypeId} {v : Value} {d : DataW H} {p : List MemPlace} (h : DataW.Trod enc Try.prog W 0 (fun _ => true) true t v d p) : ∀ x ∈ p, x.block < W.heap.size := by
  obtain ⟨m, hm⟩ := h
  exact DataW.trod_lt m _ _ _ hm

end Go.Proofs.Ytpgoildfjkokiab
