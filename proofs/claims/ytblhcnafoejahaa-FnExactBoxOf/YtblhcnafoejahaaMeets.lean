/- The walks of spec.Meets and impl.Meets: for every two boxes. -/
import Derived.Test.YtblhcnafoejahaaSpecLoops
import Derived.Deep.RegionWith
namespace Go.Proofs.Ytblhcnafoejahaa
open Go.RowKit

/-- Whether two boxes meet. -/
def meetsF (x1 x2 x3 x4 : List Int) : Bool := decide (rf2 x1 x2 x3 x4 = 0) && meetTo x1 x2 x3 x4 x1.length


theorem pad_get {xs : List Int} {p0 p1 p2 : Int} (h : Pad xs p0 p1 p2) : xs.getD 0 0 = p0 ∧ xs.getD 1 0 = p1 ∧ xs.getD 2 0 = p2 ∧ (xs.length = 2 ∨ xs.length = 3) ∧ (xs.length = 2 → p2 = 0) := by
  rcases h with ⟨rfl, rfl⟩ | rfl <;> simp

theorem meetTo_box {x1 x2 x3 x4 : List Int} {n : Nat} {p0 p1 p2 q0 q1 q2 r0 r1 r2 s0 s1 s2 : Int} (h1 : Pad x1 p0 p1 p2) (h2 : Pad x2 q0 q1 q2) (h3 : Pad x3 r0 r1 r2) (h4 : Pad x4 s0 s1 s2)
    (l1 : x1.length = n) (l2 : x2.length = n) (l3 : x3.length = n) (l4 : x4.length = n) : boxMeets p0 p1 p2 q0 q1 q2 r0 r1 r2 s0 s1 s2 = meetTo x1 x2 x3 x4 n := by
  obtain ⟨a0, a1, a2, ad, az⟩ := pad_get h1
  obtain ⟨b0, b1, b2, _, bz⟩ := pad_get h2
  obtain ⟨c0, c1, c2, _, cz⟩ := pad_get h3
  obtain ⟨d0, d1, d2, _, dz⟩ := pad_get h4
  rcases ad with e | e
  · have hn : n = 2 := by omega
    subst hn
    have za := a2.trans (az e)
    have zb := b2.trans (bz (by omega))
    have zc := c2.trans (cz (by omega))
    have zd := d2.trans (dz (by omega))
    clear az bz cz dz
    subst_vars
    simp only [boxMeets, meetTo, za, zb, zc, zd, Bool.true_and, Bool.and_assoc, Int.le_refl, decide_true, Bool.and_true]
  · have hn : n = 3 := by omega
    subst hn
    subst_vars
    simp only [boxMeets, meetTo, Bool.true_and, Bool.and_assoc]


end Go.Proofs.Ytblhcnafoejahaa
