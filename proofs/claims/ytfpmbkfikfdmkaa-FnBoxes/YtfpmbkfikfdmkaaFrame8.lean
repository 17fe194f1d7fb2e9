/- The bridge between a row's reading of its arguments and the words of my walks: a slice of bytes. No condition. -/
import Derived.Test.YtfpmbkfikfdmkaaFrame
import Derived.Test.YtfpmbkfikfdmkaaDraw1
namespace Go.Proofs.Ytfpmbkfikfdmkaa
open Go.ChangeShapes Go.WideShapes Go.ChangeAt Go.RowKit Go.Joins

theorem cellsU8 : Try.prog.cellsOf 5 = 1 := by kernel_rfl
theorem u8_wf {x : Int} (h : (Lit.int .u8 x).wf = true) : 0 ≤ x ∧ x ≤ 255 := by
  simp [Lit.wf] at h
  exact ⟨Int.le_trans (show (0 : Int) ≤ IntKind.u8.min by decide) h.1, Int.le_trans h.2 (show IntKind.u8.max ≤ (255 : Int) by decide)⟩

theorem bytes_of_trod {H : Type} {enc : TypeId × Value → H} {W : World} {fuel : Nat} {v : Value} {y : DataW H × List MemPlace}
    (h : DataW.trod enc Try.prog W 0 (fun _ => true) true fuel 22 [v] = some y) : ∃ A n c zs, v = .slice A n c ∧ Bys W W.heap.size A n zs := by
  rcases open_ints Try.underlying22 Try.underlying5 cellsU8 h with ⟨hcs, _⟩ | ⟨a, len, cap, zs, hcs, _, hl, hm, hz, _, hcell, hwf⟩
  · exact ⟨none, 0, 0, [], by simpa using hcs, rfl, fun h => absurd h (Nat.lt_irrefl 0), fun x hx => by cases hx⟩
  · refine ⟨some a, len, cap, zs.take len, by simpa using hcs, ?_, fun hp => ?_, fun x hx => u8_wf (hwf x (List.mem_of_mem_take hx))⟩
    · simp at hz; simp; omega
    · simp only [if_true] at hz
      obtain ⟨b, off, rfl, hc⟩ := ints_at hcell (by omega)
      refine ⟨b, off, rfl, ?_, fun k x hk => ?_⟩
      · exact block_lt_of_cell (a := ⟨b, off + 0, none⟩) (hc 0 (by omega))
      · have hk2 : k < len := by
          have := (List.getElem?_eq_some_iff.1 hk).1
          simp at this; omega
        rw [hc k (by omega)]
        rw [List.getElem?_take, if_pos hk2] at hk
        simp [hk]

end Go.Proofs.Ytfpmbkfikfdmkaa
