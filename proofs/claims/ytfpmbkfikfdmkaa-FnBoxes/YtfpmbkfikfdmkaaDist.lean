/- The walks of spec.DistOf and impl.DistOf: for every box and every point. -/
import Derived.Test.YtfpmbkfikfdmkaaBoxVals
namespace Go.Proofs.Ytfpmbkfikfdmkaa
open Go.RowKit

/-- How far a point is from a box, with its code. -/
def distF (xs ys ps : List Int) : Int × Int := if rf xs ys xs.length = 0 then if pf ps xs.length = 0 then (0, distTo xs ys ps xs.length) else (pf ps xs.length, 0) else (rf xs ys xs.length, 0)

theorem distTo_pads {xs ys ps : List Int} {n : Nat} {p0 p1 p2 q0 q1 q2 r0 r1 r2 : Int} (hr : Right xs ys n) (hp : Pad xs p0 p1 p2) (hq : Pad ys q0 q1 q2) (hs : Pad ps r0 r1 r2) (hl : ps.length = n) :
    away p0 q0 r0 + away p1 q1 r1 + away p2 q2 r2 = distTo xs ys ps n := by
  obtain ⟨g0, g1, g2⟩ := right_pads hr hp hq
  obtain ⟨a0, a1, a2, _, az⟩ := pad_get hp
  obtain ⟨b0, b1, b2, _, bz⟩ := pad_get hq
  obtain ⟨c0, c1, c2, _, cz⟩ := pad_get hs
  have l1 := hr.len
  have l2 := hr.len'
  rcases hr.dim with rfl | rfl
  · have za := az (by omega)
    have zb := bz (by omega)
    have zc := cz (by omega)
    simp only [distTo, a0, a1, b0, b1, c0, c1, away]
    omega
  · simp only [distTo, a0, a1, a2, b0, b1, b2, c0, c1, c2, away]
    omega

theorem pad_in {ps : List Int} {r0 r1 r2 : Int} (hs : Pad ps r0 r1 r2) (hall : allIn (-1000) 1000 ps = true) : (-1000 ≤ r0 ∧ r0 ≤ 1000) ∧ (-1000 ≤ r1 ∧ r1 ≤ 1000) ∧ (-1000 ≤ r2 ∧ r2 ≤ 1000) := by
  rcases hs with ⟨rfl, rfl⟩ | rfl
  · exact ⟨allIn_at hall (k := 0) rfl, allIn_at hall (k := 1) rfl, by omega, by omega⟩
  · exact ⟨allIn_at hall (k := 0) rfl, allIn_at hall (k := 1) rfl, allIn_at hall (k := 2) rfl⟩




end Go.Proofs.Ytfpmbkfikfdmkaa
