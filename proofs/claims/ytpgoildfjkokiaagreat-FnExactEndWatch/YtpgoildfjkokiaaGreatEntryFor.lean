/- The walk of slices.Clone at slots: of a row that is not empty. -/
import Derived.Test.YtpgoildfjkokiaaGreatHolder
import Derived.Lib.SliceRun
import Derived.Lib.LazyBuf
import Derived.Deep.RegionLaw
import Derived.Test.YtpgoildfjkokiaaGreatFreeAll
import Derived.Test.YtpgoildfjkokiaaGreatSpecNodeFault
import Derived.Test.YtpgoildfjkokiaaGreatLayAll
namespace Go.Proofs.YtpgoildfjkokiaaGreat
open Go.RowKit

theorem slotCells_inv : ∀ {ss : List SL} {j : Nat} {u : Value}, (ss.flatMap SL.cells)[j]? = some u → ∃ k i s, j = k * 8 + i ∧ ss[k]? = some s ∧ s.cells[i]? = some u
  | [], j, u, h => by simp at h
  | t :: ss, j, u, h => by
    have hl : t.cells.length = 8 := rfl
    rw [List.flatMap_cons] at h
    rcases Nat.lt_or_ge j 8 with hj | hj
    · rw [List.getElem?_append_left (by rw [hl]; exact hj)] at h
      exact ⟨0, j, t, by omega, rfl, h⟩
    · rw [List.getElem?_append_right (by rw [hl]; exact hj), hl] at h
      obtain ⟨k, i, s, e, hk, hi⟩ := slotCells_inv h
      exact ⟨k + 1, i, s, by omega, by simpa using hk, hi⟩


end Go.Proofs.YtpgoildfjkokiaaGreat

/- The walk of slices.Delete at slots: one slot is taken out of a row of the call's own. -/
namespace Go.Proofs.YtpgoildfjkokiaaGreat
open Go.RowKit

theorem slice_len {A : Option Addr} {n m c : Nat} (h : n = m) : Value.slice A n c = .slice A m c := by rw [h]
theorem zero_slot (w : World) : (zeroValue 181).run Tryz.prog w = .ok (.agg #[.int .i64 0, .int .i64 0, .int .i64 0, .int .i64 0, .int .i64 0, .int .i64 0, .int .i64 0, .int .i64 0]) w := by kernel_rfl

/-- 'clear' of one slot: its eight cells are 0. -/
theorem run_clear_slot (w : World) (ty : TypeId) (b o c : Nat) (hc : ∀ j, j < 8 → (w.cell? ⟨b, o + j, none⟩).isSome = true) (hf : ∀ j, j < 8 → w.frozen? ⟨b, o + j, none⟩ = false) :
    (Builtin.clear_ #[159] ty #[.slice (some ⟨b, o, none⟩) 1 c]).run Tryz.prog w = .ok (.tuple #[]) (w.setCells b o (List.replicate 8 (.int .i64 0))) := by
  have hst := run_storeCells_cells (P := Tryz.prog) b o (List.replicate 8 (.int .i64 0)) 0 w (by simpa using hc) (by simpa using hf) (by intro v hv'; rw [List.eq_of_mem_replicate hv']; rfl)
  simp only [Nat.add_zero] at hst
  have hzc : (Builtin.zeroCells (Value.agg #[.int .i64 0, .int .i64 0, .int .i64 0, .int .i64 0, .int .i64 0, .int .i64 0, .int .i64 0, .int .i64 0]).cells 1).toList = List.replicate 8 (.int .i64 0) := by kernel_rfl
  simp only [List.replicate] at hst hzc ⊢
  simp [Builtin.clear_, run_underlying Tryz.underlying159, zero_slot, hzc, hst]

/-- What the row holds behind the append and the clear. -/
theorem deleted_slots {w : World} {base g n cap i : Nat} {ss : List SL} (ho : w.ownsRow base 181 8 (.slice (some ⟨g, 0, none⟩) n cap) n (ss.flatMap SL.cells)) (hi : i < n) :
    Slots ((w.drew.setCells g (0 + i * 8) ((ss.drop (i + 1)).flatMap SL.cells)).setCells g (0 + (n - 1) * 8) (List.replicate 8 (.int .i64 0))) (some ⟨g, 0, none⟩) (n - 1) (ss.eraseIdx i) := by
  obtain ⟨hl, h1⟩ := ho
  rw [slotCells_len] at hl
  rcases h1 with ⟨e, _⟩ | ⟨g', cap', cur, e, b1, b2, b3, b4, b5, b6⟩
  · simp at e
  injection e with e1 e2 e3
  injection e1 with e1; injection e1 with e1
  subst e1 e3
  have hr : w.drew.rowIs g 181 (cap * 8) (fun k => cur.getD k undef) := ⟨cur, b2, b5, fun k hk => by simp [Array.getD, show k < cur.size by omega]⟩
  have hr2 := Go.rowIs_setCells (List.replicate 8 (.int .i64 0)) (0 + (n - 1) * 8) _ _ (Go.rowIs_setCells ((ss.drop (i + 1)).flatMap SL.cells) (0 + i * 8) _ _ hr)
  have hln : ss.length = n := by omega
  refine ⟨by rw [List.length_eraseIdx, if_pos (by omega)]; omega, fun hp => ⟨g, 0, rfl, hr2.lt, fun k s hk j v hv => ?_⟩⟩
  have hj : j < 8 := by have := (List.getElem?_eq_some_iff.1 hv).1; simpa [SL.cells] using this
  have hkn : k < n - 1 := by have := (List.getElem?_eq_some_iff.1 hk).1; rw [List.length_eraseIdx, if_pos (by omega)] at this; omega
  rw [hr2.cell (i := 0 + k * 8 + j) (by omega), if_neg (by simp only [List.length_replicate]; omega)]
  rw [List.getElem?_eraseIdx] at hk
  have hdl : ((ss.drop (i + 1)).flatMap SL.cells).length = (n - (i + 1)) * 8 := by rw [slotCells_len, List.length_drop, hln]
  by_cases hki : k < i
  · rw [if_pos hki] at hk
    rw [if_neg (by omega)]
    have h8 : (cur.toList.take (n * 8))[k * 8 + j]? = some v := by rw [b6]; exact slotCells_at hk hv
    rw [List.getElem?_take, if_pos (by omega)] at h8
    have h9 : cur[k * 8 + j]? = some v := by simpa using h8
    simp only [Nat.zero_add, Array.getD_eq_getD_getElem?, h9, Option.getD_some]
  · rw [if_neg hki] at hk
    rw [if_pos (by omega)]
    have h8 : ((ss.drop (i + 1)).flatMap SL.cells)[(k - i) * 8 + j]? = some v := slotCells_at (by rw [List.getElem?_drop]; rw [show i + 1 + (k - i) = k + 1 by omega]; exact hk) hv
    rw [show 0 + k * 8 + j - (0 + i * 8) = (k - i) * 8 + j by omega, h8]; rfl



end Go.Proofs.YtpgoildfjkokiaaGreat

/- The walk of impl.nodeBody's without. -/
namespace Go.Proofs.YtpgoildfjkokiaaGreat
open Go.RowKit

theorem getElem?_erase_map {α : Type} (l : List α) (i k : Nat) : (l.eraseIdx i)[k]? = if k < i then l[k]? else l[k + 1]? := List.getElem?_eraseIdx
theorem SlotsOf.erase {vs : List EVal} {ss : List SL} (h : SlotsOf vs ss) (i : Nat) : SlotsOf (vs.eraseIdx i) (ss.eraseIdx i) := by
  refine ⟨by rw [List.length_eraseIdx, List.length_eraseIdx, h.1], fun k v s hv hs => ?_⟩
  rw [List.getElem?_eraseIdx] at hv hs
  split at hv
  · exact h.2 k v s hv (by simpa [*] using hs)
  · exact h.2 (k + 1) v s hv (by simpa [*] using hs)
theorem LensE.erase {dd : Nat} {vs : List EVal} (h : LensE dd vs) (i : Nat) : LensE dd (vs.eraseIdx i) := by
  intro k u hu
  rw [List.getElem?_eraseIdx] at hu
  split at hu
  · exact h k u hu
  · exact h (k + 1) u hu

theorem Slots.far {w : World} {g o n : Nat} {ss : List SL} (h : Slots w (some ⟨g, o, none⟩) n ss) {a : Addr} (hne : g ≠ a.block) (v : Value) : Slots (w.setCell a v) (some ⟨g, o, none⟩) n ss := by
  obtain ⟨hl, hr⟩ := h
  refine ⟨hl, fun hn => ?_⟩
  obtain ⟨b, o', e, h2, h3⟩ := hr hn
  injection e with e; injection e with e1 e2; subst e1 e2
  refine ⟨g, o, rfl, by rw [size_of_setCell]; exact h2, fun k s hs j u hu => ?_⟩
  rw [World.cell?_of_block (w := w) (a := ⟨g, o + k * 8 + j, none⟩) (heap_setCell_other w a g v hne)]
  exact h3 k s hs j u hu


end Go.Proofs.YtpgoildfjkokiaaGreat

/- The walks of spec.EntryFor and impl.EntryFor. No condition but the length. -/
namespace Go.Proofs.YtpgoildfjkokiaaGreat
open Go.RowKit

/-- EntryFor's code and value: of a fault, and of the place that was found. -/
def efC (f i : Int) : Int := if f ≠ 0 then f else if i < 0 then 4 else 0
def efV (f i : Int) : Int := if f ≠ 0 then 0 else if i < 0 then 0 else i



end Go.Proofs.YtpgoildfjkokiaaGreat
