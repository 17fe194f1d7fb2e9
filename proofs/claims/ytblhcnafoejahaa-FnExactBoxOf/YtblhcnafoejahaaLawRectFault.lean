/- FnExactRectFault: for every box and every number of dimensions, impl.RectFault answers as the model does and leaves its argument alone. No condition. -/
import Derived.Test.YtblhcnafoejahaaRects
import Derived.Deep.RegionHeld3
namespace Go.Proofs.Ytblhcnafoejahaa
open Go.RowKit

/-- Two structs of two fields each lie as they were laid. -/
def Two (b1 b2 : Nat) (p1 p2 q1 q2 : Value) (w : World) : Prop := w.cell? ⟨b1, 0, none⟩ = some p1 ∧ w.cell? ⟨b1, 1, none⟩ = some p2 ∧ w.cell? ⟨b2, 0, none⟩ = some q1 ∧ w.cell? ⟨b2, 1, none⟩ = some q2

theorem two_kept {B b1 b2 : Nat} {p1 p2 q1 q2 : Value} {w w' : World} (hb : Below B w w') (h1 : b1 < B) (h2 : b2 < B) (h : Two b1 b2 p1 p2 q1 q2 w) : Two b1 b2 p1 p2 q1 q2 w' :=
  ⟨(hb.cell (p := ⟨b1, 0, none⟩) h1).trans h.1, (hb.cell (p := ⟨b1, 1, none⟩) h1).trans h.2.1, (hb.cell (p := ⟨b2, 0, none⟩) h2).trans h.2.2.1, (hb.cell (p := ⟨b2, 1, none⟩) h2).trans h.2.2.2⟩


end Go.Proofs.Ytblhcnafoejahaa
