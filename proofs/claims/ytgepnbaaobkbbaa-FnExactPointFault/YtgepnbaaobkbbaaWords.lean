/- What memory holds, said in a few words of my own: a slice that reads as a list of numbers, and what keeps it so. No condition. -/
import Derived.Test.YtgepnbaaobkbbaaRows
import Derived.WalkKit
import Derived.WalkSpells
import Derived.WalkLawsBesides
import Derived.Deep.QuietTactic
import Derived.BigQuiet
import Derived.Lib.Hide
import Derived.Deep.Draws
import Derived.Deep.OwnRows
namespace Go.Proofs.Ytgepnbaaobkbbaa
open Go.RowKit

/-- The slice value '.slice A n c' reads as the numbers xs; its cells lie in a block from lo on. -/
def Ints (w : World) (lo : Nat) (A : Option Addr) (n : Nat) (xs : List Int) : Prop :=
  xs.length = n ∧ (0 < n → ∃ b o, A = some ⟨b, o, none⟩ ∧ lo ≤ b ∧ b < w.heap.size ∧ ∀ k x, xs[k]? = some x → w.cell? ⟨b, o + k, none⟩ = some (.int .i64 x))

theorem Ints.empty (w : World) (lo : Nat) (A : Option Addr) : Ints w lo A 0 [] := ⟨rfl, fun h => absurd h (Nat.lt_irrefl 0)⟩

/-- The cell of the k-th number. -/
theorem Ints.cellAt {w : World} {lo n k : Nat} {A : Option Addr} {xs : List Int} (h : Ints w lo A n xs) (hk : k < n) :
    ∃ b o x, A = some ⟨b, o, none⟩ ∧ lo ≤ b ∧ b < w.heap.size ∧ w.cell? ⟨b, o + k, none⟩ = some (.int .i64 x) ∧ Hid (xs[k]? = some x) := by
  obtain ⟨hl, hr⟩ := h
  obtain ⟨b, o, e, h1, h2, h3⟩ := hr (by omega)
  have hx : xs[k]? = some (xs[k]'(by omega)) := List.getElem?_eq_getElem (by omega)
  exact ⟨b, o, _, e, h1, h2, h3 k _ hx, hx⟩

/-- Kept where every block that was there reads as it did. -/
theorem Ints.kept {w w' : World} {lo n : Nat} {A : Option Addr} {xs : List Int} (h : Ints w lo A n xs) (hb : Below w.heap.size w w') : Ints w' lo A n xs := by
  obtain ⟨hl, hr⟩ := h
  refine ⟨hl, fun hn => ?_⟩
  obtain ⟨b, o, e, h1, h2, h3⟩ := hr hn
  exact ⟨b, o, e, h1, Nat.lt_of_lt_of_le h2 hb.size, fun k x hx => (hb.cell (p := ⟨b, o + k, none⟩) h2).trans (h3 k x hx)⟩

theorem Ints.lower {w : World} {lo lo' n : Nat} {A : Option Addr} {xs : List Int} (h : Ints w lo A n xs) (hl : lo' ≤ lo) : Ints w lo' A n xs := by
  obtain ⟨h0, hr⟩ := h
  refine ⟨h0, fun hn => ?_⟩
  obtain ⟨b, o, e, h1, h2, h3⟩ := hr hn
  exact ⟨b, o, e, Nat.le_trans hl h1, h2, h3⟩

theorem below_draws {B : Nat} {a w : World} (h : Below B a w) (n : Nat) : Below B a (w.drewN n) := ⟨h.os, h.tape, h.output, h.size, h.block⟩

theorem ret_bool {a b : Bool} (h : a = b) : Ending.returned (.bool a) = .returned (.bool b) := by rw [h]
theorem ret_i64 {a b : Int} (h : a = b) : Ending.returned (.int .i64 a) = .returned (.int .i64 b) := by rw [h]

/-- A block that has just been laid. -/
theorem cell_new (w : World) (cs : Array Value) (t k : Nat) : (w.alloc (.cells cs t)).cell? ⟨w.heap.size, k, none⟩ = cs[k]? := cell_of_row _ _ _ cs t (0, 0) (heap_alloc_new w _)

end Go.Proofs.Ytgepnbaaobkbbaa
