/- What spec.WithEntry's last statement wants: one entry is copied, and put behind the others. -/
import Derived.Test.YtfpmbkfikfdmkaaSpecWithoutEntry
import Derived.Test.YtfpmbkfikfdmkaaBodyWith
namespace Go.Proofs.Ytfpmbkfikfdmkaa
open Go.RowKit

theorem entries_one {w : World} {b n1 c1 n2 c2 lo1 lo2 : Nat} {A1 A2 : Option Addr} {x1 x2 : List Int} {ref nsn : Int} (h : Lies w b 67 #[.slice A1 n1 c1, .slice A2 n2 c2, .int .i64 ref, .int .i64 nsn]) (h1 : Ints w lo1 A1 n1 x1) (h2 : Ints w lo2 A2 n2 x2) (m1 : n1 ≤ maxLen) (m2 : n2 ≤ maxLen) :
    Entries w (some ⟨b, 0, none⟩) 1 [⟨A1, n1, c1, A2, n2, c2, ref, nsn, x1, x2⟩] := by
  refine ⟨rfl, fun _ => ⟨b, 0, rfl, h.inside, fun k p hk => ?_⟩, fun p hp => ?_⟩
  · have : k = 0 := by have := (List.getElem?_eq_some_iff.1 hk).1; simp at this; omega
    subst this
    simp at hk; subst hk
    exact ⟨h.cell 0, h.cell 1, h.cell 2, h.cell 3⟩
  · simp only [List.mem_singleton] at hp; subst hp
    exact ⟨h1.lower (Nat.zero_le _), h2.lower (Nat.zero_le _), m1, m2⟩

theorem l3One_any (ref nsn : Int) (b n1 c1 n2 c2 lo1 lo2 dd : Nat) (A1 A2 : Option Addr) (x1 x2 : List Int) (w : World) (h : Lies w b 67 #[.slice A1 n1 c1, .slice A2 n2 c2, .int .i64 ref, .int .i64 nsn]) (h1 : Ints w lo1 A1 n1 x1) (h2 : Ints w lo2 A2 n2 x2) (m1 : n1 ≤ maxLen) (m2 : n2 ≤ maxLen) (hd : 0 < dd) (hd3 : dd ≤ 3) (hl : x1.length = dd ∧ x2.length = dd) :
    Calls Try.prog 92 #[.slice (some ⟨b, 0, none⟩) 1 1] w fun e w' => ∃ g c' q, e = .returned (.slice (some ⟨g, 0, none⟩) 1 c') ∧ EV.val q = (x1, x2, ref, nsn) ∧ w.heap.size ≤ g ∧ (∀ (j : Nat) (u : Value), (EV.cells q)[j]? = some u → w'.cell? ((⟨g, 0, none⟩ : Addr).add j) = some u) ∧ ReadE w' w.heap.size (.slice (some ⟨g, 0, none⟩) 1 c') [q] ∧ Below w.heap.size w w' := by
  refine (l3Entries_any 1 1 dd _ _ w (entries_one h h1 h2 m1 m2) (by omega) hd hd3 (fun k v hv => ?_)).mono ?_
  · have : k = 0 := by have := (List.getElem?_eq_some_iff.1 hv).1; simp at this; omega
    subst this
    simp [EV.val] at hv; subst hv
    exact hl
  · rintro e w' ⟨v, qs, rfl, hC, vq⟩
    have hlen : qs.length = 1 := by have := congrArg List.length vq; simpa using this
    obtain ⟨q, rfl⟩ := List.length_eq_one_iff.1 hlen
    obtain ⟨A, c', rfl, hl1, hr, _⟩ := hC.rows.entries
    obtain ⟨g, o, rfl, hg, hc⟩ := hr (by omega)
    have hS := hC.S
    have ho : o = 0 := by
      rcases hS.2 with ⟨e1, e2⟩ | ⟨g', cap, cur, e1, _⟩
      · simp at e1
      · simp at e1; exact e1.1.2
    subst ho
    have hlo := (ownsRow_block2 hS g rfl).1
    obtain ⟨a0, a1, a2, a3⟩ := hc 0 q rfl
    refine ⟨g, c', q, rfl, by simpa [EV.val] using vq, hlo, fun j u hj => ?_, hC.R, hC.b⟩
    rw [add_none]
    have hj4 : j < 4 := by have := (List.getElem?_eq_some_iff.1 hj).1; simpa [EV.cells] using this
    match j, hj4 with
    | 0, _ => simp [EV.cells] at hj; subst hj; exact a0
    | 1, _ => simp [EV.cells] at hj; subst hj; exact a1
    | 2, _ => simp [EV.cells] at hj; subst hj; exact a2
    | 3, _ => simp [EV.cells] at hj; subst hj; exact a3

theorem ReadE.lower {w : World} {base base' : Nat} {v : Value} {qs : List EV} (h : ReadE w base v qs) (hb : base' ≤ base) : ReadE w base' v qs := by
  intro q hq
  obtain ⟨g1, g2, a1, a2, a3, a4, r⟩ := h q hq
  exact ⟨g1, g2, a1, a2, by omega, by omega, r⟩

/-- What stands while the entry is put behind the others: the node in block g, the answer's block, the row v. -/
structure SW (w W : World) (g n : Nat) (qs : List EV) (v : Value) (od rd : Array Value) : Prop where
  o : Lies W g 61 od
  r : Lies W (w.heap.size + 1 + 1) 63 rd
  b : Below w.heap.size w W
  S : W.ownsRow (w.heap.size + 1 + 1 + 1) 67 4 v n (qs.flatMap EV.cells)
  R : ReadE W (w.heap.size + 1 + 1 + 1) v qs
  V : ∀ x, v.ownBlock = some x → x < g
  Q : ∀ q ∈ qs, blk q.A1 < g ∧ blk q.A2 < g
  G : w.heap.size + 1 + 1 + 1 ≤ g
section
variable {w W : World} {g n : Nat} {qs : List EV} {v : Value} {od rd : Array Value}
theorem SW.drew (h : SW w W g n qs v od rd) : SW w W.drew g n qs v od rd := ⟨h.o, h.r, h.b.drew, h.S, h.R, h.V, h.Q, h.G⟩
theorem SW.alloc (h : SW w W g n qs v od rd) (o : Obj) : SW w (W.alloc o) g n qs v od rd := ⟨h.o.alloc o, h.r.alloc o, h.b.alloc h.b.size o, h.S.alloc o, h.R.kept (below_alloc W o), h.V, h.Q, h.G⟩
theorem SW.call {W' : World} (h : SW w W g n qs v od rd) (hb : Below W.heap.size W W') : SW w W' g n qs v od rd :=
  ⟨h.o.kept hb h.o.inside, h.r.kept hb h.r.inside, h.b.trans (hb.mono h.b.size), ownsRow_below h.S hb, h.R.kept hb, h.V, h.Q, h.G⟩
theorem SW.put {w1 : World} {gg cap lo c' g' : Nat} {q : EV} (h : SW w W g n qs v od rd) (h' : ReadE W lo (.slice (some ⟨g', 0, none⟩) 1 c') [q]) (hlo : g < lo) (ho : w1.ownsRow (w.heap.size + 1 + 1 + 1) 67 4 (.slice (some ⟨gg, 0, none⟩) (n + 1) cap) (n + 1) (qs.flatMap EV.cells ++ EV.cells q)) (hg : W.grownBy w1 v.ownBlock) (hat : v.ownBlock = some gg ∨ W.heap.size ≤ gg) :
    Lies w1 g 61 od ∧ Lies w1 (w.heap.size + 1 + 1) 63 rd ∧ Below w.heap.size w w1 ∧ Entries w1 (some ⟨gg, 0, none⟩) (n + 1) (qs ++ [q]) ∧ (∀ p ∈ qs ++ [q], ∃ g1 g2, p.A1 = some ⟨g1, 0, none⟩ ∧ p.A2 = some ⟨g2, 0, none⟩ ∧ (g1 ≠ g ∧ g1 ≠ w.heap.size + 1 + 1 ∧ w.heap.size ≤ g1 ∧ g1 < w1.heap.size) ∧ (g2 ≠ g ∧ g2 ≠ w.heap.size + 1 + 1 ∧ w.heap.size ≤ g2 ∧ g2 < w1.heap.size)) ∧ gg ≠ g ∧ gg ≠ w.heap.size + 1 + 1 ∧ w.heap.size ≤ gg := by
  have hbk := ownsRow_block2 h.S
  have hG := h.G
  have gi := h.o.inside
  have RJ : ReadE W (w.heap.size + 1 + 1 + 1) v (qs ++ [q]) := by
    intro p hp
    rcases List.mem_append.1 hp with hp | hp
    · exact h.R p hp
    · obtain ⟨g1, g2, a1, a2, a3, a4, a5, a6, a7, a8, r⟩ := h' p hp
      exact ⟨g1, g2, a1, a2, by omega, by omega, a5, a6, fun e => by have := h.V g1 e; omega, fun e => by have := h.V g2 e; omega, r⟩
  have RG : ReadE w1 (w.heap.size + 1 + 1 + 1) (.slice (some ⟨gg, 0, none⟩) (n + 1) cap) (qs ++ [q]) := RJ.grown hg hat
  have ho' : w1.ownsRow (w.heap.size + 1 + 1 + 1) 67 4 (.slice (some ⟨gg, 0, none⟩) (n + 1) cap) (n + 1) ((qs ++ [q]).flatMap EV.cells) := by
    rw [List.flatMap_append]; simpa using ho
  refine ⟨(hg.block _ gi (fun e => ?_)).trans h.o, (hg.block _ h.r.inside (fun e => ?_)).trans h.r, below_grown2 h.b hg (fun r e => ?_) h.b.size, ?_, fun p hp => ?_, ?_, ?_, ?_⟩
  · have := h.V g e.symm; omega
  · have := (hbk _ e.symm).1; omega
  · have := (hbk r e).1; omega
  · obtain ⟨A, c, e, hE⟩ := (Rows4.mk ho' RG).entries
    injection e with e1 e2 e3
    subst e1
    exact hE
  · obtain ⟨g1, g2, a1, a2, a3, a4, a5, a6, _⟩ := RG p hp
    refine ⟨g1, g2, a1, a2, ?_, ?_⟩
    · rcases List.mem_append.1 hp with hp | hp
      · have := (h.Q p hp).1; rw [a1] at this; simp only [blk] at this; omega
      · obtain ⟨k1, k2, b1, b2, b3, b4, _⟩ := h' p hp
        rw [b1] at a1; injection a1 with a1; injection a1 with a1; omega
    · rcases List.mem_append.1 hp with hp | hp
      · have := (h.Q p hp).2; rw [a2] at this; simp only [blk] at this; omega
      · obtain ⟨k1, k2, b1, b2, b3, b4, _⟩ := h' p hp
        rw [b2] at a2; injection a2 with a2; injection a2 with a2; omega
  · rcases hat with e | e
    · have := h.V gg e; omega
    · omega
  · rcases hat with e | e
    · have := (hbk gg e).1; omega
    · omega
  · rcases hat with e | e
    · have := (hbk gg e).1; omega
    · omega
end

/-- Entries that lie in blocks from lo on, below hi. -/
structure EntF (w : World) (lo hi : Nat) (A : Option Addr) (n : Nat) (qs : List EV) : Prop where
  E : Entries w A n qs
  A' : 0 < n → ∃ g, A = some ⟨g, 0, none⟩ ∧ lo ≤ g ∧ g < hi
  Q : ∀ q ∈ qs, ∃ g1 g2, q.A1 = some ⟨g1, 0, none⟩ ∧ q.A2 = some ⟨g2, 0, none⟩ ∧ (lo ≤ g1 ∧ g1 < hi) ∧ (lo ≤ g2 ∧ g2 < hi)
theorem EntF.drew {w : World} {lo hi n : Nat} {A : Option Addr} {qs : List EV} (h : EntF w lo hi A n qs) : EntF w.drew lo hi A n qs := ⟨h.E, h.A', h.Q⟩
theorem EntF.alloc {w : World} {lo hi n : Nat} {A : Option Addr} {qs : List EV} (h : EntF w lo hi A n qs) (o : Obj) : EntF (w.alloc o) lo hi A n qs := ⟨h.E.kept (below_alloc w o), h.A', h.Q⟩
theorem EntF.far {w : World} {lo hi n : Nat} {A : Option Addr} {qs : List EV} (h : EntF w lo hi A n qs) {a : Addr} (ha : a.block < lo ∨ hi ≤ a.block) (v : Value) : EntF (w.setCell a v) lo hi A n qs := by
  refine ⟨h.E.farOf (fun hn => ?_) (fun q hq => ?_) v, h.A', h.Q⟩
  · obtain ⟨g, e, h1, h2⟩ := h.A' hn
    exact ⟨g, e, by omega⟩
  · obtain ⟨g1, g2, a1, a2, h1, h2⟩ := h.Q q hq
    exact ⟨g1, g2, a1, a2, by omega, by omega⟩
theorem EntF.nil (w : World) (lo hi : Nat) (A : Option Addr) : EntF w lo hi A 0 [] := ⟨entries_nil _ _, fun h => absurd h (Nat.lt_irrefl 0), fun q hq => by simp at hq⟩
/-- The answer R is read from memory, from blocks that the call laid. -/
def ReadPost3 (R : Int × Int × Int × Int × List EVal) (w : World) (e : Ending) (w' : World) : Prop :=
  ∃ A' n' c' qs, e = .returned (.agg #[.int .i64 R.1, .int .i64 R.2.1, .int .i64 R.2.2.1, .int .i64 R.2.2.2.1, .slice A' n' c']) ∧ EntF w' w.heap.size w'.heap.size A' n' qs ∧ qs.map EV.val = R.2.2.2.2 ∧ n' ≤ 6 ∧ Below w.heap.size w w'

end Go.Proofs.Ytfpmbkfikfdmkaa
