/- The laws' marks: a row of the call's own is written over with numbers that rise, and later asked for them: markInt64S, markRect, heldInt64S, heldRect. What else lies in memory stays. -/
import Derived.Test.YtpgoildfjkokiabRects
namespace Go.Proofs.Ytpgoildfjkokiab
open Go.RowKit

/-- From w to w' nothing has turned but blocks in G (and what is new). -/
def Turned (G : Nat → Prop) (w w' : World) : Prop := (∀ B, (∀ k, G k → B ≤ k) → B ≤ w.heap.size → Below B w w') ∧ w.heap.size ≤ w'.heap.size ∧ ∀ k, k < w.heap.size → ¬ G k → w'.heap[k]? = w.heap[k]?

theorem Turned.of_below {G : Nat → Prop} {w w' : World} (h : Below w.heap.size w w') : Turned G w w' := ⟨fun _ _ hB => h.mono hB, h.size, fun k hk _ => h.block k hk⟩
theorem Turned.refl (G : Nat → Prop) (w : World) : Turned G w w := Turned.of_below (Below.refl _ _)
theorem Turned.trans {G : Nat → Prop} {w w1 w2 : World} (h : Turned G w w1) (h' : Turned G w1 w2) : Turned G w w2 :=
  ⟨fun B hG hB => (h.1 B hG hB).trans (h'.1 B hG (Nat.le_trans hB h.2.1)), Nat.le_trans h.2.1 h'.2.1, fun k hk hn => (h'.2.2 k (Nat.lt_of_lt_of_le hk h.2.1) hn).trans (h.2.2 k hk hn)⟩
theorem Turned.wider {G H : Nat → Prop} {w w' : World} (h : Turned G w w') (hh : ∀ k, G k → H k) : Turned H w w' := ⟨fun B hG hB => h.1 B (fun k hk => hG k (hh k hk)) hB, h.2.1, fun k hk hn => h.2.2 k hk (fun hg => hn (hh k hg))⟩
theorem Turned.setCell {G : Nat → Prop} {w w' : World} (h : Turned G w w') {a : Addr} (ha : G a.block) (v : Value) : Turned G w (w'.setCell a v) := by
  refine ⟨fun B hG hB => (h.1 B hG hB).setCell (hG _ ha) v, Nat.le_trans h.2.1 (by simp [World.setCell]), fun k hk hn => ?_⟩
  rw [heap_setCell_other w' a k v (fun e => hn (e ▸ ha))]
  exact h.2.2 k hk hn
theorem Turned.below {G : Nat → Prop} {a w w' : World} (h : Turned G w w') (hB : Below a.heap.size a w) (hG : ∀ k, G k → a.heap.size ≤ k) : Below a.heap.size a w' := hB.trans (h.1 _ hG hB.size)
theorem Turned.lies {G : Nat → Prop} {w w' : World} (h : Turned G w w') {g : Nat} {t : TypeId} {cs : Array Value} (hl : Lies w g t cs) (hg : ¬ G g) : Lies w' g t cs := (h.2.2 g hl.inside hg).trans hl
theorem Turned.own {G : Nat → Prop} {w w' : World} (h : Turned G w w') {g n : Nat} {xs : List Int} (ho : Own w g n xs) (hg : ¬ G g) : Own w' g n xs := ⟨ho.1, ho.2.of_block (h.2.2 g ho.2.lt hg)⟩
theorem Turned.ints {G : Nat → Prop} {w w' : World} (h : Turned G w w') {lo n : Nat} {A : Option Addr} {xs : List Int} (hi : Ints w lo A n xs) (hg : ∀ b o, A = some ⟨b, o, none⟩ → ¬ G b) : Ints w' lo A n xs := by
  obtain ⟨hl, hr⟩ := hi
  refine ⟨hl, fun hn => ?_⟩
  obtain ⟨b, o, e, h1, h2, h3⟩ := hr hn
  refine ⟨b, o, e, h1, Nat.lt_of_lt_of_le h2 h.2.1, fun k x hx => ?_⟩
  rw [World.cell?_of_block (w := w) (a := ⟨b, o + k, none⟩) (h.2.2 b h2 (hg b o e))]
  exact h3 k x hx

/-- The marks: n numbers from k on. -/
def marks (k : Int) (n : Nat) : List Int := (List.range n).map fun (i : Nat) => k + (i : Int)
theorem marks_len (k : Int) (n : Nat) : (marks k n).length = n := by simp [marks]
theorem marks_at (k : Int) {n i : Nat} (h : i < n) : (marks k n)[i]? = some (k + i) := by simp [marks, h]

set_option maxHeartbeats 1600000 in
theorem markInt64S_any (k : Int) (n c g : Nat) (xs : List Int) (w : World) (ho : Own w g n xs) (h0 : 0 ≤ k) (h1 : k ≤ 4398046511104) (hn : n ≤ 1048576) :
    Calls Try.prog 22 #[.slice (some ⟨g, 0, none⟩) n c, .int .i64 k] w fun e w' => e = .returned (.int .i64 (k + n)) ∧ Own w' g n (marks k n) ∧ Turned (fun x => x = g) w w' := by
  have HO := Lib.hid ho
  clear ho
  go_enter Try.func22, Try.ntmps22
  go_wp2
  go_loopw [1, 5] (fun kv i wr => ∃ j : Nat, j ≤ n ∧ i = .int .i64 j ∧ kv = .int .i64 (k + j) ∧ Hid (wr.rowIs g 2 n (fun i => .int .i64 (if i < j then k + i else xs.getD i 0))) ∧ Hid (Turned (fun x => x = g) w wr)) (fun _ i _ => n - (intOf i).toNat)
  case atStart => exact ⟨0, Nat.zero_le _, rfl, by simp, HO.out.2.congr fun i _ => by simp, Turned.refl _ _⟩
  case round =>
    obtain ⟨j, hj, rfl, rfl, hrow, hT⟩ := hrel
    by_cases hlt : j < n
    · have hc : wr.cell? ⟨g, j, none⟩ = some (.int .i64 (if j < j then k + j else xs.getD j 0)) := hrow.out.cell hlt
      have hf : wr.frozen? ⟨g, j, none⟩ = false := hrow.out.frozen j
      have hrow' : Hid ((wr.setCell ⟨g, j, none⟩ (.int .i64 (k + j))).rowIs g 2 n (fun i => .int .i64 (if i < j + 1 then k + i else xs.getD i 0))) := by
        refine (hrow.out.set j (.int .i64 (k + j))).congr fun i _ => ?_
        by_cases hij : i = j
        · subst hij; simp
        · rw [if_neg hij]
          by_cases h2 : i < j
          · rw [if_pos h2, if_pos (by omega)]
          · rw [if_neg h2, if_neg (by omega)]
      have hT' := Lib.hid (hT.out.setCell (a := ⟨g, j, none⟩) rfl (.int .i64 (k + j)))
      clear hrow hT
      go_wp2
      go_roundw
      case rel => exact ⟨j + 1, by omega, by go_num, by go_num, hrow', hT'⟩
      case measure => simp [intOf]; omega
    · have hjn : j = n := by omega
      subst hjn
      have HW : Hid (Own wr g j (marks k j)) := ⟨marks_len k j, hrow.out.congr fun i hi => by rw [if_pos hi]; simp [List.getD, marks_at k hi]⟩
      clear hrow
      go_wp2
      go_ret
      exact ⟨rfl, HW.out, hT.out⟩

set_option maxHeartbeats 1600000 in
theorem heldInt64S_any (k : Int) (n c lo : Nat) (A : Option Addr) (w : World) (hi : Ints w lo A n (marks k n)) (h0 : 0 ≤ k) (h1 : k ≤ 1099511627776) (hn : n ≤ 1048576) :
    Calls Try.prog 47 #[.slice A n c, .int .i64 k] w fun e w' => e = .returned (.int .i64 (k + n)) ∧ Below w.heap.size w w' := by
  have HI := Lib.hid hi
  clear hi
  go_enter Try.func47, Try.ntmps47
  go_wp2
  go_loopw [1, 5] (fun kv i wr => ∃ j : Nat, j ≤ n ∧ i = .int .i64 j ∧ kv = .int .i64 (k + j) ∧ Hid (Below w.heap.size w wr)) (fun _ i _ => n - (intOf i).toNat)
  case atStart => exact ⟨0, Nat.zero_le _, rfl, by simp, Below.refl _ _⟩
  case round =>
    obtain ⟨j, hj, rfl, rfl, hB⟩ := hrel
    by_cases hlt : j < n
    · obtain ⟨b, o, x, rfl, _, hbw, hc, hx⟩ := HI.out.cellAt hlt
      have hxe : x = k + j := by have h := hx.out; rw [marks_at k hlt] at h; injection h with h; exact h.symm
      subst hxe
      have hc' : wr.cell? ⟨b, o + j, none⟩ = some (.int .i64 (k + j)) := (hB.out.cell (p := ⟨b, o + j, none⟩) hbw).trans hc
      have hne : ((k + (j : Int)) != (k + (j : Int))) = false := by simp
      clear hc hx
      go_wp2
      go_roundw
      case rel => exact ⟨j + 1, by omega, by go_num, by go_num, hB⟩
      case measure => simp [intOf]; omega
    · have hjn : j = n := by omega
      subst hjn
      go_wp2
      go_ret
      exact ⟨rfl, hB.out⟩

end Go.Proofs.Ytpgoildfjkokiab
