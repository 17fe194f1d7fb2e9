/- The walk of spec.l4Free. -/
import Derived.Test.YtblhcnafoejahaaSpecArena1
namespace Go.Proofs.Ytblhcnafoejahaa
open Go.RowKit

/-- An empty node as it lies. -/
def vacNV : NV := ⟨0, 0, -1, none, 0, 0, []⟩
theorem vac_val : vacNV.val = vacV := rfl
theorem vac_nodes (w : World) : NodesL (w.alloc (.cells #[.int .i64 0, .int .i64 0, .int .i64 (-1), .slice none 0 0] 29)) (some ⟨w.heap.size, 0, none⟩) 1 [vacNV] := by
  refine ⟨rfl, fun _ => ⟨w.heap.size, 0, rfl, by simp only [World.size_alloc]; omega, fun k p hk => ?_⟩, fun p hp => ?_⟩
  · rcases k with _ | k
    · simp at hk; subst hk
      exact ⟨cell_new _ _ _ _, cell_new _ _ _ _, cell_new _ _ _ _, cell_new _ _ _ _⟩
    · simp at hk
  · simp only [List.mem_singleton] at hp
    subst hp
    exact ⟨⟨rfl, fun h => absurd h (Nat.lt_irrefl 0), fun p hp => by simp [vacNV] at hp⟩, Nat.zero_le _⟩
/-- One node of the list alone. -/
theorem NodesL.sub {w : World} {b o n j : Nat} {ps : List NV} {p : NV} (h : NodesL w (some ⟨b, o, none⟩) n ps) (hj : ps[j]? = some p) : NodesL w (some ⟨b, o + j * 4, none⟩) 1 [p] := by
  obtain ⟨hl, hr, hp⟩ := h
  have hjn : j < n := by have := (List.getElem?_eq_some_iff.1 hj).1; omega
  obtain ⟨b', o', e, h2, h3⟩ := hr (by omega)
  injection e with e; injection e with e1 e2; subst e1 e2
  refine ⟨rfl, fun _ => ⟨b, o + j * 4, rfl, h2, fun k q hk => ?_⟩, fun q hq => ?_⟩
  · rcases k with _ | k
    · simp at hk; subst hk
      simpa using h3 j p hj
    · simp at hk
  · simp only [List.mem_singleton] at hq
    subst hq
    exact hp _ (List.mem_of_getElem? hj)
theorem same_vac {p : NV} : sameL NV.val [p] [vacNV] = decide (p.val = vacV) := by
  unfold sameL
  simp [vac_val]


end Go.Proofs.Ytblhcnafoejahaa
