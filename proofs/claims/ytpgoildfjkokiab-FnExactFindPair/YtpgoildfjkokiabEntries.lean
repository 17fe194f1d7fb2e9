/- What a list of entries is in memory; the laws' helpers on one entry: szEntry, toEntry, eqEntry. -/
import Derived.Test.YtpgoildfjkokiabRects
namespace Go.Proofs.Ytpgoildfjkokiab
open Go.RowKit

/-- One entry as it lies: its two slices, its numbers, what the slices read. -/
structure EV where
  A1 : Option Addr
  n1 : Nat
  c1 : Nat
  A2 : Option Addr
  n2 : Nat
  c2 : Nat
  ref : Int
  nsn : Int
  x1 : List Int
  x2 : List Int

/-- What an entry says. -/
abbrev EVal := List Int × List Int × Int × Int
def EV.val (p : EV) : EVal := (p.x1, p.x2, p.ref, p.nsn)

def EntryOk (w : World) (p : EV) : Prop := Ints w 0 p.A1 p.n1 p.x1 ∧ Ints w 0 p.A2 p.n2 p.x2 ∧ p.n1 ≤ maxLen ∧ p.n2 ≤ maxLen
theorem EntryOk.kept {w w' : World} {p : EV} (h : EntryOk w p) (hb : Below w.heap.size w w') : EntryOk w' p := ⟨h.1.kept hb, h.2.1.kept hb, h.2.2⟩

/-- The slice value '.slice A n c' reads as the entries ps. -/
def Entries (w : World) (A : Option Addr) (n : Nat) (ps : List EV) : Prop :=
  ps.length = n ∧ (0 < n → ∃ b o, A = some ⟨b, o, none⟩ ∧ b < w.heap.size ∧ ∀ k p, ps[k]? = some p →
    w.cell? ⟨b, o + k * 4, none⟩ = some (.slice p.A1 p.n1 p.c1) ∧ w.cell? ⟨b, o + k * 4 + 1, none⟩ = some (.slice p.A2 p.n2 p.c2) ∧ w.cell? ⟨b, o + k * 4 + 2, none⟩ = some (.int .i64 p.ref) ∧ w.cell? ⟨b, o + k * 4 + 3, none⟩ = some (.int .i64 p.nsn)) ∧ ∀ p ∈ ps, EntryOk w p

theorem Entries.kept {w w' : World} {n : Nat} {A : Option Addr} {ps : List EV} (h : Entries w A n ps) (hb : Below w.heap.size w w') : Entries w' A n ps := by
  obtain ⟨hl, hr, hp⟩ := h
  refine ⟨hl, fun hn => ?_, fun p hm => (hp p hm).kept hb⟩
  obtain ⟨b, o, e, h2, h3⟩ := hr hn
  refine ⟨b, o, e, Nat.lt_of_lt_of_le h2 hb.size, fun k x hx => ?_⟩
  obtain ⟨c0, c1, c2, c3⟩ := h3 k x hx
  exact ⟨(hb.cell (p := ⟨b, o + k * 4, none⟩) h2).trans c0, (hb.cell (p := ⟨b, o + k * 4 + 1, none⟩) h2).trans c1, (hb.cell (p := ⟨b, o + k * 4 + 2, none⟩) h2).trans c2, (hb.cell (p := ⟨b, o + k * 4 + 3, none⟩) h2).trans c3⟩

/-- The cells of the k-th entry, in any later world. -/
theorem Entries.cellAt {w : World} {n k : Nat} {A : Option Addr} {ps : List EV} (h : Entries w A n ps) (hk : k < n) :
    ∃ b o A1 n1 c1 A2 n2 c2 ref nsn x1 x2, A = some ⟨b, o, none⟩ ∧ b < w.heap.size ∧ w.cell? ⟨b, o + k * 4, none⟩ = some (.slice A1 n1 c1) ∧ w.cell? ⟨b, o + k * 4 + 1, none⟩ = some (.slice A2 n2 c2) ∧ w.cell? ⟨b, o + k * 4 + 2, none⟩ = some (.int .i64 ref) ∧ w.cell? ⟨b, o + k * 4 + 3, none⟩ = some (.int .i64 nsn) ∧
      Hid (ps[k]? = some ⟨A1, n1, c1, A2, n2, c2, ref, nsn, x1, x2⟩) ∧ Hid (Ints w 0 A1 n1 x1) ∧ Hid (Ints w 0 A2 n2 x2) ∧ n1 ≤ maxLen ∧ n2 ≤ maxLen := by
  obtain ⟨hl, hr, hp⟩ := h
  obtain ⟨b, o, e, h2, h3⟩ := hr (by omega)
  have hx : ps[k]? = some (ps[k]'(by omega)) := List.getElem?_eq_getElem (by omega)
  have hq := hp _ (List.mem_of_getElem? hx)
  obtain ⟨c0, c1, c2, c3⟩ := h3 k _ hx
  exact ⟨b, o, _, _, _, _, _, _, _, _, _, _, e, h2, c0, c1, c2, c3, hx, hq.1, hq.2.1, hq.2.2.1, hq.2.2.2⟩





end Go.Proofs.Ytpgoildfjkokiab
