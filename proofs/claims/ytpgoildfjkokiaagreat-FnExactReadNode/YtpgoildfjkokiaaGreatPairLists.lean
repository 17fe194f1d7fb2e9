/- What a list of pairs is in memory; the laws' helpers on one pair: szPair, toPair, eqPair. -/
import Derived.Test.YtpgoildfjkokiaaGreatRects
import Derived.Deep.RegionHeld3
namespace Go.Proofs.YtpgoildfjkokiaaGreat
open Go.RowKit

/-- One pair as it lies: its number, its two slices, what they read. -/
structure PV where
  id : Int
  A1 : Option Addr
  n1 : Nat
  c1 : Nat
  A2 : Option Addr
  n2 : Nat
  c2 : Nat
  x1 : List Int
  x2 : List Int

/-- What a pair says. -/
def PV.val (p : PV) : Int × List Int × List Int := (p.id, p.x1, p.x2)

def PairOk (w : World) (p : PV) : Prop := Ints w 0 p.A1 p.n1 p.x1 ∧ Ints w 0 p.A2 p.n2 p.x2 ∧ p.n1 ≤ maxLen ∧ p.n2 ≤ maxLen
theorem PairOk.kept {w w' : World} {p : PV} (h : PairOk w p) (hb : Below w.heap.size w w') : PairOk w' p := ⟨h.1.kept hb, h.2.1.kept hb, h.2.2⟩

/-- The slice value '.slice A n c' reads as the pairs ps. -/
def Pairs (w : World) (A : Option Addr) (n : Nat) (ps : List PV) : Prop :=
  ps.length = n ∧ (0 < n → ∃ b o, A = some ⟨b, o, none⟩ ∧ b < w.heap.size ∧ ∀ k p, ps[k]? = some p →
    w.cell? ⟨b, o + k * 3, none⟩ = some (.int .i64 p.id) ∧ w.cell? ⟨b, o + k * 3 + 1, none⟩ = some (.slice p.A1 p.n1 p.c1) ∧ w.cell? ⟨b, o + k * 3 + 2, none⟩ = some (.slice p.A2 p.n2 p.c2)) ∧ ∀ p ∈ ps, PairOk w p

theorem Pairs.kept {w w' : World} {n : Nat} {A : Option Addr} {ps : List PV} (h : Pairs w A n ps) (hb : Below w.heap.size w w') : Pairs w' A n ps := by
  obtain ⟨hl, hr, hp⟩ := h
  refine ⟨hl, fun hn => ?_, fun p hm => (hp p hm).kept hb⟩
  obtain ⟨b, o, e, h2, h3⟩ := hr hn
  refine ⟨b, o, e, Nat.lt_of_lt_of_le h2 hb.size, fun k x hx => ?_⟩
  obtain ⟨c0, c1, c2⟩ := h3 k x hx
  exact ⟨(hb.cell (p := ⟨b, o + k * 3, none⟩) h2).trans c0, (hb.cell (p := ⟨b, o + k * 3 + 1, none⟩) h2).trans c1, (hb.cell (p := ⟨b, o + k * 3 + 2, none⟩) h2).trans c2⟩

/-- The cells of the k-th pair. -/
theorem Pairs.cellAt {w : World} {n k : Nat} {A : Option Addr} {ps : List PV} (h : Pairs w A n ps) (hk : k < n) :
    ∃ b o id A1 n1 c1 A2 n2 c2 x1 x2, A = some ⟨b, o, none⟩ ∧ b < w.heap.size ∧ w.cell? ⟨b, o + k * 3, none⟩ = some (.int .i64 id) ∧ w.cell? ⟨b, o + k * 3 + 1, none⟩ = some (.slice A1 n1 c1) ∧ w.cell? ⟨b, o + k * 3 + 2, none⟩ = some (.slice A2 n2 c2) ∧
      Hid (ps[k]? = some ⟨id, A1, n1, c1, A2, n2, c2, x1, x2⟩) ∧ Hid (Ints w 0 A1 n1 x1) ∧ Hid (Ints w 0 A2 n2 x2) ∧ n1 ≤ maxLen ∧ n2 ≤ maxLen := by
  obtain ⟨hl, hr, hp⟩ := h
  obtain ⟨b, o, e, h2, h3⟩ := hr (by omega)
  have hx : ps[k]? = some (ps[k]'(by omega)) := List.getElem?_eq_getElem (by omega)
  have hq := hp _ (List.mem_of_getElem? hx)
  obtain ⟨c0, c1, c2⟩ := h3 k _ hx
  exact ⟨b, o, _, _, _, _, _, _, _, _, _, e, h2, c0, c1, c2, hx, hq.1, hq.2.1, hq.2.2.1, hq.2.2.2⟩





end Go.Proofs.YtpgoildfjkokiaaGreat

/- The laws' helpers on lists of pairs: szPairS, toPairS, eqPairS. -/
namespace Go.Proofs.YtpgoildfjkokiaaGreat
open Go.RowKit


theorem val_at {ps qs : List PV} {k : Nat} {p q : PV} (h : ps.map PV.val = qs.map PV.val) (hp : ps[k]? = some p) (hq : qs[k]? = some q) : p.val = q.val := by
  have h1 : (ps.map PV.val)[k]? = some p.val := by simp [hp]
  have h2 : (qs.map PV.val)[k]? = some q.val := by simp [hq]
  rw [h, h2] at h1
  injection h1 with h1; exact h1.symm





end Go.Proofs.YtpgoildfjkokiaaGreat
