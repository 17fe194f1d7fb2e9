/- The laws' marks: a row of the call's own is written over with numbers that rise, and later asked for them: markInt64S, markRect, heldInt64S, heldRect. What else lies in memory stays. -/
import Derived.Test.YtpgoildfjkokiaaGreatRects
import Derived.Deep.RegionHeld3
namespace Go.Proofs.YtpgoildfjkokiaaGreat
open Go.RowKit

/-- From w to w' nothing has turned but blocks in G (and what is new). -/
def Turned (G : Nat → Prop) (w w' : World) : Prop := (∀ B, (∀ k, G k → B ≤ k) → B ≤ w.heap.size → Below B w w') ∧ w.heap.size ≤ w'.heap.size ∧ ∀ k, k < w.heap.size → ¬ G k → w'.heap[k]? = w.heap[k]?

theorem Turned.of_below {G : Nat → Prop} {w w' : World} (h : Below w.heap.size w w') : Turned G w w' := ⟨fun _ _ hB => h.mono hB, h.size, fun k hk _ => h.block k hk⟩
theorem Turned.refl (G : Nat → Prop) (w : World) : Turned G w w := Turned.of_below (Below.refl _ _)
theorem Turned.trans {G : Nat → Prop} {w w1 w2 : World} (h : Turned G w w1) (h' : Turned G w1 w2) : Turned G w w2 :=
  ⟨fun B hG hB => (h.1 B hG hB).trans (h'.1 B hG (Nat.le_trans hB h.2.1)), Nat.le_trans h.2.1 h'.2.1, fun k hk hn => (h'.2.2 k (Nat.lt_of_lt_of_le hk h.2.1) hn).trans (h.2.2 k hk hn)⟩
theorem Turned.wider {G H : Nat → Prop} {w w' : World} (h : Turned G w w') (hh : ∀ k, G k → H k) : Turned H w w' := ⟨fun B hG hB => h.1 B (fun k hk => hG k (hh k hk)) hB, h.2.1, fun k hk hn => h.2.2 k hk (fun hg => hn (hh k hg))⟩
theorem Turned.setCell {G : Nat → Prop} {w w' : World} (h : Turned G w w') {a : Addr} (ha : G a.block) (v : Value) : Turned G w (w'.setCell a v) := by
  refine ⟨fun B hG hB => (h.1 B hG hB).setCell (hG _ ha) v, Nat.le_trans h.2.1 (by simp [World.setCell]), fun k hk hn => ?_⟩
  rw [heap_setCell_other w' a k v (fun e => hn (e ▸ ha))]
  exact h.2.2 k hk hn
theorem Turned.below {G : Nat → Prop} {a w w' : World} (h : Turned G w w') (hB : Below a.heap.size a w) (hG : ∀ k, G k → a.heap.size ≤ k) : Below a.heap.size a w' := hB.trans (h.1 _ hG hB.size)
theorem Turned.lies {G : Nat → Prop} {w w' : World} (h : Turned G w w') {g : Nat} {t : TypeId} {cs : Array Value} (hl : Lies w g t cs) (hg : ¬ G g) : Lies w' g t cs := (h.2.2 g hl.inside hg).trans hl
theorem Turned.own {G : Nat → Prop} {w w' : World} (h : Turned G w w') {g n : Nat} {xs : List Int} (ho : Own w g n xs) (hg : ¬ G g) : Own w' g n xs := ⟨ho.1, ho.2.of_block (h.2.2 g ho.2.lt hg)⟩
theorem Turned.ints {G : Nat → Prop} {w w' : World} (h : Turned G w w') {lo n : Nat} {A : Option Addr} {xs : List Int} (hi : Ints w lo A n xs) (hg : ∀ b o, A = some ⟨b, o, none⟩ → ¬ G b) : Ints w' lo A n xs := by
  obtain ⟨hl, hr⟩ := hi
  refine ⟨hl, fun hn => ?_⟩
  obtain ⟨b, o, e, h1, h2, h3⟩ := hr hn
  refine ⟨b, o, e, h1, Nat.lt_of_lt_of_le h2 h.2.1, fun k x hx => ?_⟩
  rw [World.cell?_of_block (w := w) (a := ⟨b, o + k, none⟩) (h.2.2 b h2 (hg b o e))]
  exact h3 k x hx

/-- The marks: n numbers from k on. -/
def marks (k : Int) (n : Nat) : List Int := (List.range n).map fun (i : Nat) => k + (i : Int)
theorem marks_len (k : Int) (n : Nat) : (marks k n).length = n := by simp [marks]
theorem marks_at (k : Int) {n i : Nat} (h : i < n) : (marks k n)[i]? = some (k + i) := by simp [marks, h]

set_option maxHeartbeats 1600000 in
theorem markInt64S_any (k : Int) (n c g : Nat) (xs : List Int) (w : World) (ho : Own w g n xs) (h0 : 0 ≤ k) (h1 : k ≤ 4398046511104) (hn : n ≤ 1048576) :
    Calls Tryz.prog 26 #[.slice (some ⟨g, 0, none⟩) n c, .int .i64 k] w fun e w' => e = .returned (.int .i64 (k + n)) ∧ Own w' g n (marks k n) ∧ Turned (fun x => x = g) w w' := by
  have HO := Lib.hid ho
  clear ho
  go_enter Tryz.func26, Tryz.ntmps26
  go_wp2
  go_loopw [1, 5] (fun kv i wr => ∃ j : Nat, j ≤ n ∧ i = .int .i64 j ∧ kv = .int .i64 (k + j) ∧ Hid (wr.rowIs g 2 n (fun i => .int .i64 (if i < j then k + i else xs.getD i 0))) ∧ Hid (Turned (fun x => x = g) w wr)) (fun _ i _ => n - (intOf i).toNat)
  case atStart => exact ⟨0, Nat.zero_le _, rfl, by simp, HO.out.2.congr fun i _ => by simp, Turned.refl _ _⟩
  case round =>
    obtain ⟨j, hj, rfl, rfl, hrow, hT⟩ := hrel
    by_cases hlt : j < n
    · have hc : wr.cell? ⟨g, j, none⟩ = some (.int .i64 (if j < j then k + j else xs.getD j 0)) := hrow.out.cell hlt
      have hf : wr.frozen? ⟨g, j, none⟩ = false := hrow.out.frozen j
      have hrow' : Hid ((wr.setCell ⟨g, j, none⟩ (.int .i64 (k + j))).rowIs g 2 n (fun i => .int .i64 (if i < j + 1 then k + i else xs.getD i 0))) := by
        refine (hrow.out.set j (.int .i64 (k + j))).congr fun i _ => ?_
        by_cases hij : i = j
        · subst hij; simp
        · rw [if_neg hij]
          by_cases h2 : i < j
          · rw [if_pos h2, if_pos (by omega)]
          · rw [if_neg h2, if_neg (by omega)]
      have hT' := Lib.hid (hT.out.setCell (a := ⟨g, j, none⟩) rfl (.int .i64 (k + j)))
      clear hrow hT
      go_wp2
      go_roundw
      case rel => exact ⟨j + 1, by omega, by go_num, by go_num, hrow', hT'⟩
      case measure => simp [intOf]; omega
    · have hjn : j = n := by omega
      subst hjn
      have HW : Hid (Own wr g j (marks k j)) := ⟨marks_len k j, hrow.out.congr fun i hi => by rw [if_pos hi]; simp [List.getD, marks_at k hi]⟩
      clear hrow
      go_wp2
      go_ret
      exact ⟨rfl, HW.out, hT.out⟩

set_option maxHeartbeats 1600000 in
theorem heldInt64S_any (k : Int) (n c lo : Nat) (A : Option Addr) (w : World) (hi : Ints w lo A n (marks k n)) (h0 : 0 ≤ k) (h1 : k ≤ 1099511627776) (hn : n ≤ 1048576) :
    Calls Tryz.prog 103 #[.slice A n c, .int .i64 k] w fun e w' => e = .returned (.int .i64 (k + n)) ∧ Below w.heap.size w w' := by
  have HI := Lib.hid hi
  clear hi
  go_enter Tryz.func103, Tryz.ntmps103
  go_wp2
  go_loopw [1, 5] (fun kv i wr => ∃ j : Nat, j ≤ n ∧ i = .int .i64 j ∧ kv = .int .i64 (k + j) ∧ Hid (Below w.heap.size w wr)) (fun _ i _ => n - (intOf i).toNat)
  case atStart => exact ⟨0, Nat.zero_le _, rfl, by simp, Below.refl _ _⟩
  case round =>
    obtain ⟨j, hj, rfl, rfl, hB⟩ := hrel
    by_cases hlt : j < n
    · obtain ⟨b, o, x, rfl, _, hbw, hc, hx⟩ := HI.out.cellAt hlt
      have hxe : x = k + j := by have h := hx.out; rw [marks_at k hlt] at h; injection h with h; exact h.symm
      subst hxe
      have hc' : wr.cell? ⟨b, o + j, none⟩ = some (.int .i64 (k + j)) := (hB.out.cell (p := ⟨b, o + j, none⟩) hbw).trans hc
      have hne : ((k + (j : Int)) != (k + (j : Int))) = false := by simp
      clear hc hx
      go_wp2
      go_roundw
      case rel => exact ⟨j + 1, by omega, by go_num, by go_num, hB⟩
      case measure => simp [intOf]; omega
    · have hjn : j = n := by omega
      subst hjn
      go_wp2
      go_ret
      exact ⟨rfl, hB.out⟩

end Go.Proofs.YtpgoildfjkokiaaGreat

/- What a list of entries is in memory; the laws' helpers on one entry: szEntry, toEntry, eqEntry. -/
namespace Go.Proofs.YtpgoildfjkokiaaGreat
open Go.RowKit

/-- One entry as it lies: its two slices, its numbers, what the slices read. -/
structure EV where
  A1 : Option Addr
  n1 : Nat
  c1 : Nat
  A2 : Option Addr
  n2 : Nat
  c2 : Nat
  ref : Int
  nsn : Int
  x1 : List Int
  x2 : List Int

/-- What an entry says. -/
abbrev EVal := List Int × List Int × Int × Int
def EV.val (p : EV) : EVal := (p.x1, p.x2, p.ref, p.nsn)

def EntryOk (w : World) (p : EV) : Prop := Ints w 0 p.A1 p.n1 p.x1 ∧ Ints w 0 p.A2 p.n2 p.x2 ∧ p.n1 ≤ maxLen ∧ p.n2 ≤ maxLen
theorem EntryOk.kept {w w' : World} {p : EV} (h : EntryOk w p) (hb : Below w.heap.size w w') : EntryOk w' p := ⟨h.1.kept hb, h.2.1.kept hb, h.2.2⟩

/-- The slice value '.slice A n c' reads as the entries ps. -/
def Entries (w : World) (A : Option Addr) (n : Nat) (ps : List EV) : Prop :=
  ps.length = n ∧ (0 < n → ∃ b o, A = some ⟨b, o, none⟩ ∧ b < w.heap.size ∧ ∀ k p, ps[k]? = some p →
    w.cell? ⟨b, o + k * 4, none⟩ = some (.slice p.A1 p.n1 p.c1) ∧ w.cell? ⟨b, o + k * 4 + 1, none⟩ = some (.slice p.A2 p.n2 p.c2) ∧ w.cell? ⟨b, o + k * 4 + 2, none⟩ = some (.int .i64 p.ref) ∧ w.cell? ⟨b, o + k * 4 + 3, none⟩ = some (.int .i64 p.nsn)) ∧ ∀ p ∈ ps, EntryOk w p

theorem Entries.kept {w w' : World} {n : Nat} {A : Option Addr} {ps : List EV} (h : Entries w A n ps) (hb : Below w.heap.size w w') : Entries w' A n ps := by
  obtain ⟨hl, hr, hp⟩ := h
  refine ⟨hl, fun hn => ?_, fun p hm => (hp p hm).kept hb⟩
  obtain ⟨b, o, e, h2, h3⟩ := hr hn
  refine ⟨b, o, e, Nat.lt_of_lt_of_le h2 hb.size, fun k x hx => ?_⟩
  obtain ⟨c0, c1, c2, c3⟩ := h3 k x hx
  exact ⟨(hb.cell (p := ⟨b, o + k * 4, none⟩) h2).trans c0, (hb.cell (p := ⟨b, o + k * 4 + 1, none⟩) h2).trans c1, (hb.cell (p := ⟨b, o + k * 4 + 2, none⟩) h2).trans c2, (hb.cell (p := ⟨b, o + k * 4 + 3, none⟩) h2).trans c3⟩

/-- The cells of the k-th entry, in any later world. -/
theorem Entries.cellAt {w : World} {n k : Nat} {A : Option Addr} {ps : List EV} (h : Entries w A n ps) (hk : k < n) :
    ∃ b o A1 n1 c1 A2 n2 c2 ref nsn x1 x2, A = some ⟨b, o, none⟩ ∧ b < w.heap.size ∧ w.cell? ⟨b, o + k * 4, none⟩ = some (.slice A1 n1 c1) ∧ w.cell? ⟨b, o + k * 4 + 1, none⟩ = some (.slice A2 n2 c2) ∧ w.cell? ⟨b, o + k * 4 + 2, none⟩ = some (.int .i64 ref) ∧ w.cell? ⟨b, o + k * 4 + 3, none⟩ = some (.int .i64 nsn) ∧
      Hid (ps[k]? = some ⟨A1, n1, c1, A2, n2, c2, ref, nsn, x1, x2⟩) ∧ Hid (Ints w 0 A1 n1 x1) ∧ Hid (Ints w 0 A2 n2 x2) ∧ n1 ≤ maxLen ∧ n2 ≤ maxLen := by
  obtain ⟨hl, hr, hp⟩ := h
  obtain ⟨b, o, e, h2, h3⟩ := hr (by omega)
  have hx : ps[k]? = some (ps[k]'(by omega)) := List.getElem?_eq_getElem (by omega)
  have hq := hp _ (List.mem_of_getElem? hx)
  obtain ⟨c0, c1, c2, c3⟩ := h3 k _ hx
  exact ⟨b, o, _, _, _, _, _, _, _, _, _, _, e, h2, c0, c1, c2, c3, hx, hq.1, hq.2.1, hq.2.2.1, hq.2.2.2⟩

set_option maxHeartbeats 400000 in
theorem szEntry_yes (ref nsn l : Int) (n1 c1 n2 c2 : Nat) (A1 A2 : Option Addr) (w : World) (h1 : l ≤ 1048576) (m1 : n1 ≤ maxLen) (m2 : n2 ≤ maxLen) (h : n1 + n2 ≤ l) :
    Calls Tryz.prog 126 #[.agg #[.slice A1 n1 c1, .slice A2 n2 c2, .int .i64 ref, .int .i64 nsn], .int .i64 l] w fun e w' => e = .returned (.int .i64 (l - n1 - n2)) ∧ Below w.heap.size w w' := by
  have hk : ¬ (l - n1 - n2 < 0) := by omega
  have B := Lib.hid (Below.refl w.heap.size w)
  have L_a := Lib.hid (Lies.new w 171 #[.slice A1 n1 c1, .slice A2 n2 c2, .int .i64 ref, .int .i64 nsn])
  replace B := Lib.hid (B.out.alloc B.out.size (.cells #[.slice A1 n1 c1, .slice A2 n2 c2, .int .i64 ref, .int .i64 nsn] 171))
  go_enter Tryz.func126, Tryz.ntmps126
  go_wp2_with fail
  refine (szRect_yes _ _ _ _ _ _ _ _ h1 m1 m2 (by omega)).mono ?_
  rintro e W1 ⟨rfl, b1⟩
  replace L_a := Lib.hid (L_a.out.kept b1 L_a.out.inside)
  replace B := Lib.hid (B.out.trans (b1.mono B.out.size))
  clear b1
  go_wp2
  go_ret
  exact ⟨rfl, B.out⟩

set_option maxHeartbeats 400000 in
theorem szEntry_no (ref nsn l : Int) (n1 c1 n2 c2 : Nat) (A1 A2 : Option Addr) (w : World) (h0 : 0 ≤ l) (h1 : l ≤ 1048576) (m1 : n1 ≤ maxLen) (m2 : n2 ≤ maxLen) (h : l < n1 + n2) :
    Calls Tryz.prog 126 #[.agg #[.slice A1 n1 c1, .slice A2 n2 c2, .int .i64 ref, .int .i64 nsn], .int .i64 l] w fun e w' => e = .returned (.int .i64 (-1)) ∧ Below w.heap.size w w' := by
  have B := Lib.hid (Below.refl w.heap.size w)
  have L_a := Lib.hid (Lies.new w 171 #[.slice A1 n1 c1, .slice A2 n2 c2, .int .i64 ref, .int .i64 nsn])
  replace B := Lib.hid (B.out.alloc B.out.size (.cells #[.slice A1 n1 c1, .slice A2 n2 c2, .int .i64 ref, .int .i64 nsn] 171))
  go_enter Tryz.func126, Tryz.ntmps126
  go_wp2_with fail
  refine (szRect_no _ _ _ _ _ _ _ _ h0 h1 m1 m2 (by omega)).mono ?_
  rintro e W1 ⟨rfl, b1⟩
  replace L_a := Lib.hid (L_a.out.kept b1 L_a.out.inside)
  replace B := Lib.hid (B.out.trans (b1.mono B.out.size))
  clear b1
  go_wp2
  go_ret
  exact ⟨rfl, B.out⟩

set_option maxHeartbeats 800000 in
theorem eqEntry_same (ref nsn : Int) (n1 n2 c1 c2 c3 c4 lo1 lo2 lo3 lo4 : Nat) (A1 A2 A3 A4 : Option Addr) (x1 x2 : List Int) (w : World) (h1 : Ints w lo1 A1 n1 x1) (h2 : Ints w lo2 A2 n2 x2) (h3 : Ints w lo3 A3 n1 x1) (h4 : Ints w lo4 A4 n2 x2) (m1 : n1 ≤ maxLen) (m2 : n2 ≤ maxLen) :
    Calls Tryz.prog 120 #[.agg #[.slice A1 n1 c1, .slice A2 n2 c2, .int .i64 ref, .int .i64 nsn], .agg #[.slice A3 n1 c3, .slice A4 n2 c4, .int .i64 ref, .int .i64 nsn]] w fun e w' => e = .returned (.bool true) ∧ Below w.heap.size w w' := by
  have e1 : (ref != ref) = false := by simp
  have e2 : (nsn != nsn) = false := by simp
  have I_x1 := Lib.hid h1
  have I_x2 := Lib.hid h2
  have I_x3 := Lib.hid h3
  have I_x4 := Lib.hid h4
  clear h1 h2 h3 h4
  have B := Lib.hid (Below.refl w.heap.size w)
  have L_a := Lib.hid (Lies.new w 150 #[.slice A1 n1 c1, .slice A2 n2 c2, .int .i64 ref, .int .i64 nsn])
  replace B := Lib.hid (B.out.alloc B.out.size (.cells #[.slice A1 n1 c1, .slice A2 n2 c2, .int .i64 ref, .int .i64 nsn] 150))
  replace L_a := Lib.hid (L_a.out.alloc (.cells #[.slice A3 n1 c3, .slice A4 n2 c4, .int .i64 ref, .int .i64 nsn] 150))
  have L_b := Lib.hid (Lies.new (w.alloc (.cells #[.slice A1 n1 c1, .slice A2 n2 c2, .int .i64 ref, .int .i64 nsn] 150)) 150 #[.slice A3 n1 c3, .slice A4 n2 c4, .int .i64 ref, .int .i64 nsn])
  replace B := Lib.hid (B.out.alloc B.out.size (.cells #[.slice A3 n1 c3, .slice A4 n2 c4, .int .i64 ref, .int .i64 nsn] 150))
  simp only [World.size_alloc] at L_b
  go_enter Tryz.func120, Tryz.ntmps120
  go_wp2_with fail
  refine (eqRect_is true _ _ _ _ _ _ _ _ _ _ _ _ _ _ _ _ x1 x2 x1 x2 _ (by simp) (I_x1.out.kept B.out) (I_x2.out.kept B.out) (I_x3.out.kept B.out) (I_x4.out.kept B.out) m1 m2).mono ?_
  rintro e W1 ⟨rfl, b1⟩
  replace L_a := Lib.hid (L_a.out.kept b1 L_a.out.inside)
  replace L_b := Lib.hid (L_b.out.kept b1 L_b.out.inside)
  replace B := Lib.hid (B.out.trans (b1.mono B.out.size))
  clear b1
  have a2 : W1.cell? ⟨w.heap.size, 2, none⟩ = some (.int .i64 ref) := L_a.out.cell 2
  have a3 : W1.cell? ⟨w.heap.size, 3, none⟩ = some (.int .i64 nsn) := L_a.out.cell 3
  have b2 : W1.cell? ⟨w.heap.size + 1, 2, none⟩ = some (.int .i64 ref) := L_b.out.cell 2
  have b3 : W1.cell? ⟨w.heap.size + 1, 3, none⟩ = some (.int .i64 nsn) := L_b.out.cell 3
  go_wp2
  go_ret
  exact ⟨rfl, B.out⟩

set_option maxHeartbeats 1600000 in
theorem toEntry_any (ref nsn : Int) (n1 c1 n2 c2 lo1 lo2 : Nat) (A1 A2 : Option Addr) (x1 x2 : List Int) (w : World) (h1 : Ints w lo1 A1 n1 x1) (h2 : Ints w lo2 A2 n2 x2) (m1 : n1 ≤ 1048576) (m2 : n2 ≤ 1048576) :
    Calls Tryz.prog 129 #[.agg #[.slice A1 n1 c1, .slice A2 n2 c2, .int .i64 ref, .int .i64 nsn]] w fun e w' => ∃ g1 g2, e = .returned (.agg #[.slice (some ⟨g1, 0, none⟩) n1 n1, .slice (some ⟨g2, 0, none⟩) n2 n2, .int .i64 ref, .int .i64 nsn]) ∧
      Own w' g1 n1 x1 ∧ Own w' g2 n2 x2 ∧ w.heap.size ≤ g1 ∧ g1 < g2 ∧ Below w.heap.size w w' := by
  have I_1 := Lib.hid h1
  have I_2 := Lib.hid h2
  clear h1 h2
  have B := Lib.hid (below_alloc w (.cells #[.slice A1 n1 c1, .slice A2 n2 c2, .int .i64 ref, .int .i64 nsn] 171))
  replace B := Lib.hid (B.out.alloc B.out.size (.cells #[.slice none 0 0, .slice none 0 0, .int .i64 0, .int .i64 0] 150))
  replace B := Lib.hid (B.out.alloc B.out.size (.cells #[.slice none 0 0, .slice none 0 0, .int .i64 0, .int .i64 0] 150))
  have L_a := Lib.hid (((Lies.new w 171 #[.slice A1 n1 c1, .slice A2 n2 c2, .int .i64 ref, .int .i64 nsn]).alloc (.cells #[.slice none 0 0, .slice none 0 0, .int .i64 0, .int .i64 0] 150)).alloc (.cells #[.slice none 0 0, .slice none 0 0, .int .i64 0, .int .i64 0] 150))
  have L_r := Lib.hid ((Lies.new (w.alloc (.cells #[.slice A1 n1 c1, .slice A2 n2 c2, .int .i64 ref, .int .i64 nsn] 171)) 150 #[.slice none 0 0, .slice none 0 0, .int .i64 0, .int .i64 0]).alloc (.cells #[.slice none 0 0, .slice none 0 0, .int .i64 0, .int .i64 0] 150))
  have L_o := Lib.hid (Lies.new ((w.alloc (.cells #[.slice A1 n1 c1, .slice A2 n2 c2, .int .i64 ref, .int .i64 nsn] 171)).alloc (.cells #[.slice none 0 0, .slice none 0 0, .int .i64 0, .int .i64 0] 150)) 150 #[.slice none 0 0, .slice none 0 0, .int .i64 0, .int .i64 0])
  simp only [World.size_alloc] at L_r L_o
  go_enter Tryz.func129, Tryz.ntmps129
  go_wp2_with fail
  refine (toRect_any _ _ _ _ _ _ _ _ x1 x2 _ (I_1.out.kept B.out) (I_2.out.kept B.out) m1 m2).mono ?_
  rintro e W1 ⟨g1, g2, rfl, o1, o2, hg1, hg2, b1⟩
  simp only [World.size_alloc] at hg1
  replace L_a := Lib.hid (L_a.out.kept b1 L_a.out.inside)
  replace L_r := Lib.hid (L_r.out.kept b1 L_r.out.inside)
  replace L_o := Lib.hid (L_o.out.kept b1 L_o.out.inside)
  replace B := Lib.hid (B.out.trans (b1.mono B.out.size))
  have O_1 := Lib.hid o1
  have O_2 := Lib.hid o2
  clear b1 o1 o2
  have c_a2 : W1.cell? ⟨w.heap.size, 2, none⟩ = some (.int .i64 ref) := L_a.out.cell 2
  have c_a3 : W1.cell? ⟨w.heap.size, 3, none⟩ = some (.int .i64 nsn) := L_a.out.cell 3
  have c_o0 : W1.cell? ⟨w.heap.size + 1 + 1, 0, none⟩ = some (.slice none 0 0) := L_o.out.cell 0
  have f_o0 : W1.frozen? ⟨w.heap.size + 1 + 1, 0, none⟩ = false := L_o.out.thawed 0
  have c_o1 : W1.cell? ⟨w.heap.size + 1 + 1, 1, none⟩ = some (.slice none 0 0) := L_o.out.cell 1
  have f_o1 : W1.frozen? ⟨w.heap.size + 1 + 1, 1, none⟩ = false := L_o.out.thawed 1
  have c_o2 : W1.cell? ⟨w.heap.size + 1 + 1, 2, none⟩ = some (.int .i64 0) := L_o.out.cell 2
  have f_o2 : W1.frozen? ⟨w.heap.size + 1 + 1, 2, none⟩ = false := L_o.out.thawed 2
  have c_o3 : W1.cell? ⟨w.heap.size + 1 + 1, 3, none⟩ = some (.int .i64 0) := L_o.out.cell 3
  have f_o3 : W1.frozen? ⟨w.heap.size + 1 + 1, 3, none⟩ = false := L_o.out.thawed 3
  have c_r0 : W1.cell? ⟨w.heap.size + 1, 0, none⟩ = some (.slice none 0 0) := L_r.out.cell 0
  have f_r0 : W1.frozen? ⟨w.heap.size + 1, 0, none⟩ = false := L_r.out.thawed 0
  have c_r1 : W1.cell? ⟨w.heap.size + 1, 1, none⟩ = some (.slice none 0 0) := L_r.out.cell 1
  have f_r1 : W1.frozen? ⟨w.heap.size + 1, 1, none⟩ = false := L_r.out.thawed 1
  have c_r2 : W1.cell? ⟨w.heap.size + 1, 2, none⟩ = some (.int .i64 0) := L_r.out.cell 2
  have f_r2 : W1.frozen? ⟨w.heap.size + 1, 2, none⟩ = false := L_r.out.thawed 2
  have c_r3 : W1.cell? ⟨w.heap.size + 1, 3, none⟩ = some (.int .i64 0) := L_r.out.cell 3
  have f_r3 : W1.frozen? ⟨w.heap.size + 1, 3, none⟩ = false := L_r.out.thawed 3
  go_wp2
  refine bodyPost_ret (v := .agg #[.slice (some ⟨g1, 0, none⟩) n1 n1, .slice (some ⟨g2, 0, none⟩) n2 n2, .int .i64 ref, .int .i64 nsn]) (by simp [results, Tryz.results129, go_sem, c_r0, c_r1, c_r2, c_r3]) rfl ⟨g1, g2, rfl, ?_, ?_, by omega, hg2, ?_⟩
  · with_reducible (repeat (first | exact O_1.out | refine Own.far ?_ ?_ _))
    all_goals (first | (show g1 ≠ w.heap.size + 1 + 1; omega) | (show g1 ≠ w.heap.size + 1; omega))
  · with_reducible (repeat (first | exact O_2.out | refine Own.far ?_ ?_ _))
    all_goals (first | (show g2 ≠ w.heap.size + 1 + 1; omega) | (show g2 ≠ w.heap.size + 1; omega))
  · with_reducible (repeat (first | exact B.out | refine Below.setCell ?_ ?_ _))
    all_goals (first | (show w.heap.size ≤ w.heap.size + 1 + 1; omega) | (show w.heap.size ≤ w.heap.size + 1; omega))

end Go.Proofs.YtpgoildfjkokiaaGreat

/- The laws' helpers on lists of entries: szEntryS, toEntryS, eqEntryS. -/
namespace Go.Proofs.YtpgoildfjkokiaaGreat
open Go.RowKit

set_option maxHeartbeats 1600000 in
theorem szEntryS_any (l : Int) (n c : Nat) (A : Option Addr) (ps : List EV) (w : World) (hp : Entries w A n ps) (hn : n ≤ maxLen) (h0 : 0 ≤ l) (h1 : l ≤ 1048576) :
    Calls Tryz.prog 111 #[.slice A n c, .int .i64 l] w fun e w' => ∃ r : Int, e = .returned (.int .i64 r) ∧ (r = -1 ∨ (0 ≤ r ∧ r ≤ l ∧ (n : Int) ≤ l ∧ ∀ (k : Nat) (p : EV), ps[k]? = some p → (p.n1 : Int) + p.n2 ≤ l)) ∧ Below w.heap.size w w' := by
  have HP := Lib.hid hp
  clear hp
  by_cases hs : l < n
  · unfold maxLen at hn
    go_enter Tryz.func111, Tryz.ntmps111
    go_wp2
    go_ret
    exact ⟨-1, rfl, Or.inl rfl, Below.refl _ _⟩
  have hk : ¬ (l - n < 0) := by omega
  unfold maxLen at hn
  go_enter Tryz.func111, Tryz.ntmps111
  go_wp2
  go_loopw [1, 5] (fun lv i wr => ∃ (k : Nat) (m : Int), k ≤ n ∧ i = .int .i64 k ∧ lv = .int .i64 m ∧ 0 ≤ m ∧ m ≤ l ∧ Hid (Below w.heap.size w wr) ∧ Hid (∀ (j : Nat) (p : EV), j < k → ps[j]? = some p → (p.n1 : Int) + p.n2 ≤ l)) (fun _ i _ => n - (intOf i).toNat)
  case atStart => exact ⟨0, _, Nat.zero_le _, rfl, rfl, by omega, by omega, Below.refl _ _, fun j p hj => absurd hj (Nat.not_lt_zero _)⟩
  case round =>
    obtain ⟨k, m, hk', rfl, rfl, hm0, hm1, hB, hA⟩ := hrel
    by_cases hlt : k < n
    · obtain ⟨b, o, A1, n1, c1, A2, n2, c2, ref, nsn, x1, x2, rfl, hb, d0, d1, d2, d3, hx, i1, i2, m1, m2⟩ := HP.out.cellAt hlt
      have e0 : wr.cell? ⟨b, o + k * 4, none⟩ = some (.slice A1 n1 c1) := (hB.out.cell (p := ⟨b, o + k * 4, none⟩) hb).trans d0
      have e1 : wr.cell? ⟨b, o + k * 4 + 1, none⟩ = some (.slice A2 n2 c2) := (hB.out.cell (p := ⟨b, o + k * 4 + 1, none⟩) hb).trans d1
      have e2 : wr.cell? ⟨b, o + k * 4 + 2, none⟩ = some (.int .i64 ref) := (hB.out.cell (p := ⟨b, o + k * 4 + 2, none⟩) hb).trans d2
      have e3 : wr.cell? ⟨b, o + k * 4 + 3, none⟩ = some (.int .i64 nsn) := (hB.out.cell (p := ⟨b, o + k * 4 + 3, none⟩) hb).trans d3
      clear d0 d1 d2 d3 i1 i2
      by_cases hz : m < n1 + n2
      · go_wp2_with fail
        refine (szEntry_no _ _ _ _ _ _ _ _ _ _ hm0 (by omega) m1 m2 hz).mono ?_
        rintro e W1 ⟨rfl, b1⟩
        go_wp2
        go_ret
        exact ⟨-1, rfl, Or.inl rfl, hB.out.trans (b1.mono hB.out.size)⟩
      · have hz2 : ¬ (m - n1 - n2 < 0) := by omega
        go_wp2_with fail
        refine (szEntry_yes _ _ _ _ _ _ _ _ _ _ (by omega) m1 m2 (by omega)).mono ?_
        rintro e W1 ⟨rfl, b1⟩
        have hB' := Lib.hid (hB.out.trans (b1.mono hB.out.size))
        have hA' : Hid (∀ (j : Nat) (p : EV), j < k + 1 → ps[j]? = some p → (p.n1 : Int) + p.n2 ≤ l) := by
          intro j p hj hp
          rcases Nat.lt_succ_iff_lt_or_eq.1 hj with h | h
          · exact hA.out j p h hp
          · subst h; rw [hx.out] at hp; injection hp with hp; subst hp; show (n1 : Int) + n2 ≤ l; omega
        clear hA hB b1 hx e0 e1 e2 e3
        go_wp2
        go_roundw
        case rel => exact ⟨k + 1, _, by omega, by go_num, rfl, by omega, by omega, hB', hA'⟩
        case measure => simp [intOf]; omega
    · have hA' : ∀ (k : Nat) (p : EV), ps[k]? = some p → (p.n1 : Int) + p.n2 ≤ l := fun j p hp => hA.out j p (by have h1 := (List.getElem?_eq_some_iff.1 hp).1; have h2 := HP.out.1; omega) hp
      have HA := Lib.hid hA'
      clear hA' hA
      go_wp2
      go_ret
      exact ⟨_, rfl, Or.inr ⟨hm0, hm1, by omega, HA.out⟩, hB.out⟩

theorem eval_at {ps qs : List EV} {k : Nat} {p q : EV} (h : ps.map EV.val = qs.map EV.val) (hp : ps[k]? = some p) (hq : qs[k]? = some q) : p.val = q.val := by
  have h1 : (ps.map EV.val)[k]? = some p.val := by simp [hp]
  have h2 : (qs.map EV.val)[k]? = some q.val := by simp [hq]
  rw [h, h2] at h1
  injection h1 with h1; exact h1.symm

set_option maxHeartbeats 3200000 in
theorem eqEntryS_same (n c c' : Nat) (A A' : Option Addr) (ps qs : List EV) (w : World) (hp : Entries w A n ps) (hq : Entries w A' n qs) (hv : ps.map EV.val = qs.map EV.val) (hn : n ≤ maxLen) :
    Calls Tryz.prog 91 #[.slice A n c, .slice A' n c'] w fun e w' => e = .returned (.bool true) ∧ Below w.heap.size w w' := by
  have HP := Lib.hid hp
  have HQ := Lib.hid hq
  have HV := Lib.hid hv
  clear hp hq hv
  unfold maxLen at hn
  have hne : ((n : Int) != n) = false := by simp
  go_enter Tryz.func91, Tryz.ntmps91
  go_wp2
  go_loopw [5] (fun i wr => ∃ k : Nat, k ≤ n ∧ i = .int .i64 k ∧ Hid (Below w.heap.size w wr)) (fun i _ => n - (intOf i).toNat)
  case atStart => exact ⟨0, Nat.zero_le _, rfl, Below.refl _ _⟩
  case round =>
    obtain ⟨k, hk', rfl, hB⟩ := hrel
    by_cases hlt : k < n
    · obtain ⟨b, o, A1, n1, c1, A2, n2, c2, ref, nsn, x1, x2, rfl, hb, d0, d1, d2, d3, hx, i1, i2, m1, m2⟩ := HP.out.cellAt hlt
      obtain ⟨b', o', A3, n3, c3, A4, n4, c4, ref', nsn', x3, x4, rfl, hb', d4, d5, d6, d7, hy, i3, i4, m3, m4⟩ := HQ.out.cellAt hlt
      have hvv := eval_at HV.out hx.out hy.out
      simp only [EV.val, Prod.mk.injEq] at hvv
      obtain ⟨rfl, rfl, rfl, rfl⟩ := hvv
      have l1 : n1 = n3 := i1.out.1.symm.trans i3.out.1
      have l2 : n2 = n4 := i2.out.1.symm.trans i4.out.1
      subst l1 l2
      have kb := Nat.lt_of_lt_of_le hb hB.out.size
      have kb' := Nat.lt_of_lt_of_le hb' hB.out.size
      have k_0 : wr.cell? ⟨b, o + k * 4, none⟩ = some (.slice A1 n1 c1) ∧ wr.cell? ⟨b, o + k * 4 + 1, none⟩ = some (.slice A2 n2 c2) ∧ wr.cell? ⟨b, o + k * 4 + 2, none⟩ = some (.int .i64 ref) ∧ wr.cell? ⟨b, o + k * 4 + 3, none⟩ = some (.int .i64 nsn) ∧ wr.cell? ⟨b', o' + k * 4, none⟩ = some (.slice A3 n1 c3) ∧ wr.cell? ⟨b', o' + k * 4 + 1, none⟩ = some (.slice A4 n2 c4) ∧ wr.cell? ⟨b', o' + k * 4 + 2, none⟩ = some (.int .i64 ref) ∧ wr.cell? ⟨b', o' + k * 4 + 3, none⟩ = some (.int .i64 nsn) :=
        ⟨(hB.out.cell (p := ⟨b, o + k * 4, none⟩) hb).trans d0, (hB.out.cell (p := ⟨b, o + k * 4 + 1, none⟩) hb).trans d1, (hB.out.cell (p := ⟨b, o + k * 4 + 2, none⟩) hb).trans d2, (hB.out.cell (p := ⟨b, o + k * 4 + 3, none⟩) hb).trans d3, (hB.out.cell (p := ⟨b', o' + k * 4, none⟩) hb').trans d4, (hB.out.cell (p := ⟨b', o' + k * 4 + 1, none⟩) hb').trans d5, (hB.out.cell (p := ⟨b', o' + k * 4 + 2, none⟩) hb').trans d6, (hB.out.cell (p := ⟨b', o' + k * 4 + 3, none⟩) hb').trans d7⟩
      clear d0 d1 d2 d3 d4 d5 d6 d7 hx hy
      go_wp2_with fail
      go_region_held3 (fun w' => w'.cell? ⟨b, o + k * 4, none⟩ = some (.slice A1 n1 c1) ∧ w'.cell? ⟨b, o + k * 4 + 1, none⟩ = some (.slice A2 n2 c2) ∧ w'.cell? ⟨b, o + k * 4 + 2, none⟩ = some (.int .i64 ref) ∧ w'.cell? ⟨b, o + k * 4 + 3, none⟩ = some (.int .i64 nsn) ∧ w'.cell? ⟨b', o' + k * 4, none⟩ = some (.slice A3 n1 c3) ∧ w'.cell? ⟨b', o' + k * 4 + 1, none⟩ = some (.slice A4 n2 c4) ∧ w'.cell? ⟨b', o' + k * 4 + 2, none⟩ = some (.int .i64 ref) ∧ w'.cell? ⟨b', o' + k * 4 + 3, none⟩ = some (.int .i64 nsn))
        (first | (simp [go_sem, k_0]; done) | with_reducible exact k_1)
        (first
          | (go_at_call 120; refine (eqEntry_same _ _ _ _ _ _ _ _ _ _ _ _ _ _ _ _ x1 x2 _ (i1.out.kept hB.out.drew) (i2.out.kept hB.out.drew) (i3.out.kept hB.out.drew) (i4.out.kept hB.out.drew) m1 m2).mono ?_
             rintro e W1 ⟨rfl, b1d⟩
             have b1 := below_drawn b1d
             have k_1 : W1.cell? ⟨b, o + k * 4, none⟩ = some (.slice A1 n1 c1) ∧ W1.cell? ⟨b, o + k * 4 + 1, none⟩ = some (.slice A2 n2 c2) ∧ W1.cell? ⟨b, o + k * 4 + 2, none⟩ = some (.int .i64 ref) ∧ W1.cell? ⟨b, o + k * 4 + 3, none⟩ = some (.int .i64 nsn) ∧ W1.cell? ⟨b', o' + k * 4, none⟩ = some (.slice A3 n1 c3) ∧ W1.cell? ⟨b', o' + k * 4 + 1, none⟩ = some (.slice A4 n2 c4) ∧ W1.cell? ⟨b', o' + k * 4 + 2, none⟩ = some (.int .i64 ref) ∧ W1.cell? ⟨b', o' + k * 4 + 3, none⟩ = some (.int .i64 nsn) :=
               ⟨(b1.cell (p := ⟨b, o + k * 4, none⟩) kb).trans k_0.1, (b1.cell (p := ⟨b, o + k * 4 + 1, none⟩) kb).trans k_0.2.1, (b1.cell (p := ⟨b, o + k * 4 + 2, none⟩) kb).trans k_0.2.2.1, (b1.cell (p := ⟨b, o + k * 4 + 3, none⟩) kb).trans k_0.2.2.2.1, (b1.cell (p := ⟨b', o' + k * 4, none⟩) kb').trans k_0.2.2.2.2.1, (b1.cell (p := ⟨b', o' + k * 4 + 1, none⟩) kb').trans k_0.2.2.2.2.2.1, (b1.cell (p := ⟨b', o' + k * 4 + 2, none⟩) kb').trans k_0.2.2.2.2.2.2.1, (b1.cell (p := ⟨b', o' + k * 4 + 3, none⟩) kb').trans k_0.2.2.2.2.2.2.2⟩
             clear b1d))
      clear k_0 k_1
      have hB' := Lib.hid (hB.out.trans (b1.mono hB.out.size))
      clear hB b1
      go_wp2
      go_roundw
      case rel => exact ⟨k + 1, by omega, by go_num, hB'⟩
      case measure => simp [intOf]; omega
    · go_wp2
      go_ret
      exact ⟨rfl, hB.out⟩

/-- Block g is a row of the call's own that holds the entries qs ahead, each with two rows of its own. -/
def EntriesOwn (w : World) (g n : Nat) (qs : List EV) : Prop :=
  (∃ f, w.rowIs g 150 (n * 4) f ∧ ∀ (j : Nat) (q : EV), qs[j]? = some q → f (j * 4) = .slice q.A1 q.n1 q.c1 ∧ f (j * 4 + 1) = .slice q.A2 q.n2 q.c2 ∧ f (j * 4 + 2) = .int .i64 q.ref ∧ f (j * 4 + 3) = .int .i64 q.nsn) ∧ qs.length ≤ n ∧
  ∀ q ∈ qs, q.n1 ≤ 1048576 ∧ q.n2 ≤ 1048576 ∧ q.c1 = q.n1 ∧ q.c2 = q.n2 ∧ ∃ g1 g2, q.A1 = some ⟨g1, 0, none⟩ ∧ q.A2 = some ⟨g2, 0, none⟩ ∧ g < g1 ∧ g1 < g2 ∧ Own w g1 q.n1 q.x1 ∧ Own w g2 q.n2 q.x2

theorem EntriesOwn.inside {w : World} {g n : Nat} {qs : List EV} (h : EntriesOwn w g n qs) : g < w.heap.size := by obtain ⟨⟨f, h1, _⟩, _⟩ := h; exact h1.lt
theorem EntriesOwn.kept {w w' : World} {g n : Nat} {qs : List EV} (h : EntriesOwn w g n qs) (hb : Below w.heap.size w w') : EntriesOwn w' g n qs := by
  obtain ⟨⟨f, h1, h2⟩, hl, h3⟩ := h
  refine ⟨⟨f, h1.of_block (hb.block g h1.lt), h2⟩, hl, fun q hq => ?_⟩
  obtain ⟨k1, k2, k3, k4, g1, g2, k5, k6, k7, k8, k9, k10⟩ := h3 q hq
  exact ⟨k1, k2, k3, k4, g1, g2, k5, k6, k7, k8, k9.kept hb, k10.kept hb⟩
theorem EntriesOwn.far {w : World} {g n : Nat} {qs : List EV} (h : EntriesOwn w g n qs) {a : Addr} (hne : a.block < g) (v : Value) : EntriesOwn (w.setCell a v) g n qs := by
  obtain ⟨⟨f, h1, h2⟩, hl, h3⟩ := h
  refine ⟨⟨f, h1.setOther (by omega) v, h2⟩, hl, fun q hq => ?_⟩
  obtain ⟨k1, k2, k3, k4, g1, g2, k5, k6, k7, k8, k9, k10⟩ := h3 q hq
  exact ⟨k1, k2, k3, k4, g1, g2, k5, k6, k7, k8, k9.far (by omega) v, k10.far (by omega) v⟩
theorem EntriesOwn.entries {w : World} {g n : Nat} {qs : List EV} (h : EntriesOwn w g n qs) (hl : qs.length = n) : Entries w (some ⟨g, 0, none⟩) n qs := by
  obtain ⟨⟨f, h1, h2⟩, _, h3⟩ := h
  refine ⟨hl, fun _ => ⟨g, 0, rfl, h1.lt, fun k p hk => ?_⟩, fun q hq => ?_⟩
  · have hkn : k < n := by have := (List.getElem?_eq_some_iff.1 hk).1; omega
    obtain ⟨a0, a1, a2, a3⟩ := h2 k p hk
    rw [Nat.zero_add, h1.cell (i := k * 4) (by omega), h1.cell (i := k * 4 + 1) (by omega), h1.cell (i := k * 4 + 2) (by omega), h1.cell (i := k * 4 + 3) (by omega), a0, a1, a2, a3]
    exact ⟨rfl, rfl, rfl, rfl⟩
  · obtain ⟨k1, k2, k3, k4, g1, g2, k5, k6, k7, k8, k9, k10⟩ := h3 q hq
    exact ⟨by rw [k5]; exact k9.ints (Nat.zero_le _), by rw [k6]; exact k10.ints (Nat.zero_le _), Nat.le_trans k1 (by decide), Nat.le_trans k2 (by decide)⟩
theorem EntriesOwn.put {w : World} {g n k : Nat} {qs : List EV} (h : EntriesOwn w g n qs) (hl : qs.length = k) (hk : k < n) {ref nsn : Int} {g1 g2 n1 n2 : Nat} {x1 x2 : List Int} (l1 : g < g1) (l2 : g1 < g2) (o1 : Own w g1 n1 x1) (o2 : Own w g2 n2 x2) (m1 : n1 ≤ 1048576) (m2 : n2 ≤ 1048576) :
    EntriesOwn ((((w.setCell ⟨g, k * 4, none⟩ (.slice (some ⟨g1, 0, none⟩) n1 n1)).setCell ⟨g, k * 4 + 1, none⟩ (.slice (some ⟨g2, 0, none⟩) n2 n2)).setCell ⟨g, k * 4 + 2, none⟩ (.int .i64 ref)).setCell ⟨g, k * 4 + 3, none⟩ (.int .i64 nsn)) g n (qs ++ [⟨some ⟨g1, 0, none⟩, n1, n1, some ⟨g2, 0, none⟩, n2, n2, ref, nsn, x1, x2⟩]) := by
  obtain ⟨⟨f, h1, h2⟩, hln, h3⟩ := h
  have far : ∀ {gg m : Nat} {xs : List Int}, g < gg → Own w gg m xs → Own ((((w.setCell ⟨g, k * 4, none⟩ (.slice (some ⟨g1, 0, none⟩) n1 n1)).setCell ⟨g, k * 4 + 1, none⟩ (.slice (some ⟨g2, 0, none⟩) n2 n2)).setCell ⟨g, k * 4 + 2, none⟩ (.int .i64 ref)).setCell ⟨g, k * 4 + 3, none⟩ (.int .i64 nsn)) gg m xs :=
    fun hh ho => (((ho.far (by show _ ≠ g; omega) _).far (by show _ ≠ g; omega) _).far (by show _ ≠ g; omega) _).far (by show _ ≠ g; omega) _
  refine ⟨⟨_, (((h1.set (k * 4) _).set (k * 4 + 1) _).set (k * 4 + 2) _).set (k * 4 + 3) _, fun j q hq => ?_⟩, by simp; omega, fun q hq => ?_⟩
  · rcases Nat.lt_or_ge j k with hj | hj
    · rw [List.getElem?_append_left (by omega)] at hq
      obtain ⟨a0, a1, a2, a3⟩ := h2 j q hq
      refine ⟨?_, ?_, ?_, ?_⟩
      · rw [if_neg (by omega), if_neg (by omega), if_neg (by omega), if_neg (by omega)]; exact a0
      · rw [if_neg (by omega), if_neg (by omega), if_neg (by omega), if_neg (by omega)]; exact a1
      · rw [if_neg (by omega), if_neg (by omega), if_neg (by omega), if_neg (by omega)]; exact a2
      · rw [if_neg (by omega), if_neg (by omega), if_neg (by omega), if_neg (by omega)]; exact a3
    · rw [List.getElem?_append_right (by omega)] at hq
      have hj0 : j = k := by
        have := (List.getElem?_eq_some_iff.1 hq).1
        simp at this; omega
      subst hj0
      rw [hl, Nat.sub_self] at hq
      simp only [List.getElem?_cons_zero, Option.some.injEq] at hq
      subst hq
      refine ⟨?_, ?_, ?_, ?_⟩
      · rw [if_neg (by omega), if_neg (by omega), if_neg (by omega), if_pos rfl]
      · rw [if_neg (by omega), if_neg (by omega), if_pos rfl]
      · rw [if_neg (by omega), if_pos rfl]
      · rw [if_pos rfl]
  · rcases List.mem_append.1 hq with hq | hq
    · obtain ⟨k1, k2, k3, k4, a1, a2, k5, k6, k7, k8, k9, k10⟩ := h3 q hq
      exact ⟨k1, k2, k3, k4, a1, a2, k5, k6, k7, k8, far k7 k9, far (by omega) k10⟩
    · simp only [List.mem_singleton] at hq
      subst hq
      exact ⟨m1, m2, rfl, rfl, g1, g2, rfl, rfl, l1, l2, far l1 o1, far (by omega) o2⟩

theorem info_entry : (Tryz.prog.info? 150).map (fun i => (i.zero, i.size, i.bytes)) = some (some (.agg #[.slice none 0 0, .slice none 0 0, .int .i64 0, .int .i64 0]), 4, 64) := by kernel_rfl
theorem run_make_entries (n : Nat) (hn : n ≤ 1048576) (W : World) : (Instr.makeSlice 40 (.int .i64 (n : Int)) (.int .i64 (n : Int))).run Tryz.prog W = .ok (.slice (some ⟨W.heap.size, 0, none⟩) n n) (W.alloc (.cells (madeCells #[.slice none 0 0, .slice none 0 0, .int .i64 0, .int .i64 0] (n * 4)) 150)) := by
  obtain ⟨i, hi, h⟩ := Option.map_eq_some_iff.1 info_entry
  simp only [Prod.mk.injEq] at h
  have hr := run_make (P := Tryz.prog) W 40 150 i _ Tryz.underlying40 hi h.1 .i64 .i64 n n (by omega) (Int.le_refl _) (by rw [h.2.2]; omega) (by omega)
  simp only [Int.toNat_natCast, h.2.1] at hr
  exact hr
theorem entriesOwn_made (w : World) (n : Nat) (cs : Array Value) (hc : cs.size = n * 4) : EntriesOwn (w.alloc (.cells cs 150)) w.heap.size n [] := by
  refine ⟨⟨fun i => cs.getD i undef, ?_, fun j q hq => by simp at hq⟩, Nat.zero_le _, fun q hq => by simp at hq⟩
  rw [← hc]
  exact World.rowIs_alloc w cs _ _ fun i hi => by simp [Array.getD, hi]

set_option maxHeartbeats 3200000 in
theorem toEntryS_any (n c : Nat) (A : Option Addr) (ps : List EV) (w : World) (hp : Entries w A n ps) (hn : n ≤ 1048576) (hs : ∀ (k : Nat) (p : EV), ps[k]? = some p → p.n1 ≤ 1048576 ∧ p.n2 ≤ 1048576) :
    Calls Tryz.prog 117 #[.slice A n c] w fun e w' => ∃ (g : Nat) (qs : List EV), e = .returned (.slice (some ⟨g, 0, none⟩) n n) ∧ w.heap.size ≤ g ∧ EntriesOwn w' g n qs ∧ qs.length = n ∧ qs.map EV.val = ps.map EV.val ∧ Below w.heap.size w w' := by
  have HP := Lib.hid hp
  have HS := Lib.hid hs
  clear hp hs
  have hmk := fun W => run_make_entries n hn W
  go_enter Tryz.func117, Tryz.ntmps117
  go_wp2
  clear hmk
  go_loopw [4] (fun i wr => ∃ (k : Nat) (qs : List EV), k ≤ n ∧ i = .int .i64 k ∧ Hid (Below w.heap.size w wr) ∧ Hid (EntriesOwn wr w.heap.size n qs) ∧ Hid (qs.length = k) ∧ Hid (qs.map EV.val = (ps.take k).map EV.val)) (fun i _ => n - (intOf i).toNat)
  case atStart => exact ⟨0, [], Nat.zero_le _, rfl, below_alloc _ _, entriesOwn_made w n _ (size_madeCells _ _), rfl, rfl⟩
  case round =>
    obtain ⟨k, qs, hk', rfl, hB, hO, hL, hV⟩ := hrel
    by_cases hlt : k < n
    · obtain ⟨b, o, A1, n1, c1, A2, n2, c2, ref, nsn, x1, x2, rfl, hb, d0, d1, d2, d3, hx, i1, i2, m1, m2⟩ := HP.out.cellAt hlt
      have e0 : wr.cell? ⟨b, o + k * 4, none⟩ = some (.slice A1 n1 c1) := (hB.out.cell (p := ⟨b, o + k * 4, none⟩) hb).trans d0
      have e1 : wr.cell? ⟨b, o + k * 4 + 1, none⟩ = some (.slice A2 n2 c2) := (hB.out.cell (p := ⟨b, o + k * 4 + 1, none⟩) hb).trans d1
      have e2 : wr.cell? ⟨b, o + k * 4 + 2, none⟩ = some (.int .i64 ref) := (hB.out.cell (p := ⟨b, o + k * 4 + 2, none⟩) hb).trans d2
      have e3 : wr.cell? ⟨b, o + k * 4 + 3, none⟩ = some (.int .i64 nsn) := (hB.out.cell (p := ⟨b, o + k * 4 + 3, none⟩) hb).trans d3
      have q1 : n1 ≤ 1048576 := (HS.out k _ hx.out).1
      have q2 : n2 ≤ 1048576 := (HS.out k _ hx.out).2
      clear d0 d1 d2 d3
      go_wp2_with fail
      clear e0 e1 e2 e3
      refine (toEntry_any _ _ _ _ _ _ _ _ _ _ x1 x2 _ (i1.out.kept hB.out) (i2.out.kept hB.out) q1 q2).mono ?_
      rintro e W1 ⟨g1, g2, rfl, o1, o2, l1, l2, b1⟩
      have hin := hO.out.inside
      replace hO := Lib.hid (hO.out.kept b1)
      replace hB := Lib.hid (hB.out.trans (b1.mono hB.out.size))
      have hO' := Lib.hid (hO.out.put (ref := ref) (nsn := nsn) hL.out hlt (g1 := g1) (g2 := g2) (by omega) l2 o1 o2 q1 q2)
      have hV' : Hid ((qs ++ [(⟨some ⟨g1, 0, none⟩, n1, n1, some ⟨g2, 0, none⟩, n2, n2, ref, nsn, x1, x2⟩ : EV)]).map EV.val = (ps.take (k + 1)).map EV.val) := by
        show List.map EV.val _ = _
        rw [List.map_append, hV.out, List.take_add_one, hx.out, List.map_append]; rfl
      have hL' : Hid ((qs ++ [(⟨some ⟨g1, 0, none⟩, n1, n1, some ⟨g2, 0, none⟩, n2, n2, ref, nsn, x1, x2⟩ : EV)]).length = k + 1) := by show List.length _ = _; simp [hL.out]
      obtain ⟨⟨f, hrow, _⟩, _⟩ := hO.out
      have c0 : W1.cell? ⟨w.heap.size, k * 4, none⟩ = some (f (k * 4)) := hrow.cell (by omega)
      have c1' : W1.cell? ⟨w.heap.size, k * 4 + 1, none⟩ = some (f (k * 4 + 1)) := hrow.cell (by omega)
      have c2' : W1.cell? ⟨w.heap.size, k * 4 + 2, none⟩ = some (f (k * 4 + 2)) := hrow.cell (by omega)
      have c3' : W1.cell? ⟨w.heap.size, k * 4 + 3, none⟩ = some (f (k * 4 + 3)) := hrow.cell (by omega)
      have f0 : W1.frozen? ⟨w.heap.size, k * 4, none⟩ = false := hrow.frozen _
      have f1 : W1.frozen? ⟨w.heap.size, k * 4 + 1, none⟩ = false := hrow.frozen _
      have f2 : W1.frozen? ⟨w.heap.size, k * 4 + 2, none⟩ = false := hrow.frozen _
      have f3 : W1.frozen? ⟨w.heap.size, k * 4 + 3, none⟩ = false := hrow.frozen _
      have hB' := Lib.hid ((((hB.out.setCell (p := ⟨w.heap.size, k * 4, none⟩) (Nat.le_refl _) (.slice (some ⟨g1, 0, none⟩) n1 n1)).setCell (p := ⟨w.heap.size, k * 4 + 1, none⟩) (Nat.le_refl _) (.slice (some ⟨g2, 0, none⟩) n2 n2)).setCell (p := ⟨w.heap.size, k * 4 + 2, none⟩) (Nat.le_refl _) (.int .i64 ref)).setCell (p := ⟨w.heap.size, k * 4 + 3, none⟩) (Nat.le_refl _) (.int .i64 nsn))
      clear hO hB b1 o1 o2 hx i1 i2 hV hL l1 l2 hin hrow
      go_wp2
      go_roundw
      case rel => exact ⟨k + 1, _, by omega, by go_num, hB', hO', hL', hV'⟩
      case measure => simp [intOf]; omega
    · have hkn : k = n := by omega
      have HE : Hid (qs.map EV.val = ps.map EV.val) := by show List.map _ _ = _; rw [hV.out, List.take_of_length_le (by have := HP.out.1; omega)]
      have HL : Hid (qs.length = n) := hkn ▸ hL.out
      clear hkn
      go_wp2
      go_ret
      exact ⟨_, qs, rfl, Nat.le_refl _, hO.out, HL.out, HE.out, hB.out⟩

end Go.Proofs.YtpgoildfjkokiaaGreat
