/- Places, and an arena that is worked at: what they are in memory, and what a store into one leaves of the others. -/
import Derived.Test.YtpgoildfjkokiaaGreatSpecArena2
import Derived.Test.YtpgoildfjkokiaaGreatMarkRes
import Derived.Test.YtpgoildfjkokiaaGreatNodeRes
namespace Go.Proofs.YtpgoildfjkokiaaGreat
open Go.RowKit

/-- A place as it lies: its block, its node's numbers, its slots, whether it is free, who watches it. -/
structure LV where
  g : Nat
  lv : Int
  ns : Int
  rt : Int
  A : Option Addr
  n : Nat
  c : Nat
  ss : List SL
  vs : List EVal
  fr : Bool
  wA : Option Addr
  wn : Nat
  wc : Nat
  ws : List Int
def LV.val (p : LV) : NVal := (p.lv, p.ns, p.rt, p.vs)
def LV.cells (d : Int) (p : LV) : Array Value := #[holderV d p.lv p.ns p.rt p.A p.n p.c, .bool p.fr, .slice p.wA p.wn p.wc]
def LV.ptr (p : LV) : Value := .pointer (some ⟨p.g, 0, none⟩)
/-- The row that the place leads to lies in block b. -/
def LV.row (p : LV) (b : Nat) : Prop := (0 < p.n ∧ p.A = some ⟨b, 0, none⟩) ∨ (0 < p.wn ∧ p.wA = some ⟨b, 0, none⟩)
/-- Block b belongs to the place. -/
def LV.has (p : LV) (b : Nat) : Prop := p.g = b ∨ p.row b
structure PlaceOk (w : World) (lo : Nat) (d : Int) (p : LV) : Prop where
  L : Lies w p.g 87 (p.cells d)
  S : Slots w p.A p.n p.ss
  O : SlotsOf p.vs p.ss
  N : nodeF p.lv p.ns p.rt p.vs d = 0
  W : Ints w 0 p.wA p.wn p.ws
  g : lo ≤ p.g
  F : Fresh lo p.A p.n
  E : Fresh lo p.wA p.wn
  Y : ¬ p.row p.g
section
variable {w w' : World} {lo : Nat} {d : Int} {p : LV}
theorem Fresh.in_slots {A : Option Addr} {n b : Nat} {ss : List SL} (h : Slots w A n ss) (h0 : 0 < n) (e : A = some ⟨b, 0, none⟩) : b < w.heap.size := by
  obtain ⟨b', o, e', h2, _⟩ := h.2 h0
  rw [e] at e'; injection e' with e'; injection e' with e'; omega
theorem Fresh.in_ints {lo : Nat} {A : Option Addr} {n b : Nat} {xs : List Int} (h : Ints w lo A n xs) (h0 : 0 < n) (e : A = some ⟨b, 0, none⟩) : b < w.heap.size := by
  obtain ⟨b', o, e', _, h2, _⟩ := h.2 h0
  rw [e] at e'; injection e' with e'; injection e' with e'; omega
theorem PlaceOk.inside (h : PlaceOk w lo d p) {b : Nat} (hb : p.has b) : lo ≤ b ∧ b < w.heap.size := by
  rcases hb with rfl | ⟨h0, e⟩ | ⟨h0, e⟩
  · exact ⟨h.g, h.L.inside⟩
  · obtain ⟨g, e', h1⟩ := h.F h0
    rw [e] at e'; injection e' with e'; injection e' with e'
    exact ⟨by omega, Fresh.in_slots h.S h0 e⟩
  · obtain ⟨g, e', h1⟩ := h.E h0
    rw [e] at e'; injection e' with e'; injection e' with e'
    exact ⟨by omega, Fresh.in_ints h.W h0 e⟩
theorem Slots.block {A : Option Addr} {n : Nat} {ss : List SL} (h : Slots w A n ss) (hF : Fresh lo A n) (hs : w.heap.size ≤ w'.heap.size) (hk : ∀ b, 0 < n → A = some ⟨b, 0, none⟩ → w'.heap[b]? = w.heap[b]?) : Slots w' A n ss := by
  obtain ⟨hl, hr⟩ := h
  refine ⟨hl, fun hn => ?_⟩
  obtain ⟨b, o, e, h2, h3⟩ := hr hn
  obtain ⟨g, e', _⟩ := hF hn
  have e2 := e
  rw [e'] at e2; injection e2 with e2; injection e2 with e2 e3
  subst e2 e3
  refine ⟨g, 0, e, by omega, fun k s hs' j v hv => ?_⟩
  rw [World.cell?_of_block (w := w) (a := ⟨g, 0 + k * 8 + j, none⟩) (hk g hn e')]
  exact h3 k s hs' j v hv
theorem Ints.blockF {lo0 : Nat} {A : Option Addr} {n : Nat} {xs : List Int} (h : Ints w lo0 A n xs) (hF : Fresh lo A n) (hs : w.heap.size ≤ w'.heap.size) (hk : ∀ b, 0 < n → A = some ⟨b, 0, none⟩ → w'.heap[b]? = w.heap[b]?) : Ints w' lo0 A n xs := by
  obtain ⟨hl, hr⟩ := h
  refine ⟨hl, fun hn => ?_⟩
  obtain ⟨b, o, e, h1, h2, h3⟩ := hr hn
  obtain ⟨g, e', _⟩ := hF hn
  have e2 := e
  rw [e'] at e2; injection e2 with e2; injection e2 with e2 e3
  subst e2 e3
  refine ⟨g, 0, e, h1, by omega, fun k x hx => ?_⟩
  rw [World.cell?_of_block (w := w) (a := ⟨g, 0 + k, none⟩) (hk g hn e')]
  exact h3 k x hx
/-- What holds of a place holds where none of its blocks has turned. -/
theorem PlaceOk.others (h : PlaceOk w lo d p) (hs : w.heap.size ≤ w'.heap.size) (hk : ∀ b, p.has b → w'.heap[b]? = w.heap[b]?) : PlaceOk w' lo d p :=
  ⟨(hk _ (Or.inl rfl)).trans h.L, h.S.block h.F hs (fun b h0 e => hk b (Or.inr (Or.inl ⟨h0, e⟩))), h.O, h.N, h.W.blockF h.E hs (fun b h0 e => hk b (Or.inr (Or.inr ⟨h0, e⟩))), h.g, h.F, h.E, h.Y⟩
theorem PlaceOk.kept (h : PlaceOk w lo d p) (hb : Below w.heap.size w w') : PlaceOk w' lo d p := h.others hb.size fun b hp => hb.block b (h.inside hp).2
end

/-- Places that share no block. -/
structure Places (w : World) (lo : Nat) (d : Int) (ps : List LV) : Prop where
  P : ∀ p ∈ ps, PlaceOk w lo d p
  X : ∀ (i j : Nat) (p q : LV), ps[i]? = some p → ps[j]? = some q → i ≠ j → ¬ q.has p.g
section
variable {w w' : World} {lo : Nat} {d : Int} {ps : List LV}
theorem Places.kept (h : Places w lo d ps) (hb : Below w.heap.size w w') : Places w' lo d ps := ⟨fun p hp => (h.P p hp).kept hb, h.X⟩
theorem Places.others (h : Places w lo d ps) (hs : w.heap.size ≤ w'.heap.size) (hk : ∀ p ∈ ps, ∀ b, p.has b → w'.heap[b]? = w.heap[b]?) : Places w' lo d ps := ⟨fun p hp => (h.P p hp).others hs (hk p hp), h.X⟩
theorem Places.nil (w : World) (lo : Nat) (d : Int) : Places w lo d [] := ⟨fun p hp => by simp at hp, fun i j p q hi => by simp at hi⟩
theorem Places.snoc (h : Places w lo d ps) {p : LV} (hp : PlaceOk w lo d p) (h1 : ∀ q ∈ ps, ¬ q.has p.g) (h2 : ∀ q ∈ ps, ¬ p.has q.g) : Places w lo d (ps ++ [p]) := by
  refine ⟨fun q hq => ?_, fun i j a b ha hb hne => ?_⟩
  · rcases List.mem_append.1 hq with hq | hq
    · exact h.P q hq
    · simp only [List.mem_singleton] at hq; subst hq; exact hp
  · rcases Nat.lt_or_ge i ps.length with hi | hi <;> rcases Nat.lt_or_ge j ps.length with hj | hj
    · rw [List.getElem?_append_left hi] at ha
      rw [List.getElem?_append_left hj] at hb
      exact h.X i j a b ha hb hne
    · rw [List.getElem?_append_left hi] at ha
      rw [List.getElem?_append_right hj] at hb
      have : j - ps.length = 0 := by have := (List.getElem?_eq_some_iff.1 hb).1; simp at this; omega
      rw [this] at hb; simp at hb; subst hb
      exact h2 a (List.mem_of_getElem? ha)
    · rw [List.getElem?_append_right hi] at ha
      rw [List.getElem?_append_left hj] at hb
      have : i - ps.length = 0 := by have := (List.getElem?_eq_some_iff.1 ha).1; simp at this; omega
      rw [this] at ha; simp at ha; subst ha
      exact h1 b (List.mem_of_getElem? hb)
    · rw [List.getElem?_append_right hi] at ha
      rw [List.getElem?_append_right hj] at hb
      have h3 := (List.getElem?_eq_some_iff.1 ha).1
      have h4 := (List.getElem?_eq_some_iff.1 hb).1
      simp at h3 h4; omega
/-- One place is written anew: its block alone has turned. -/
theorem Places.put (h : Places w lo d ps) {i : Nat} {p p' : LV} (hi : ps[i]? = some p) (hg : p'.g = p.g) (hs : w.heap.size ≤ w'.heap.size) (hk : ∀ b, b < w.heap.size → b ≠ p.g → w'.heap[b]? = w.heap[b]?) (hp : PlaceOk w' lo d p') (hr : ∀ b, p'.row b → p.row b ∨ w.heap.size ≤ b) : Places w' lo d (ps.set i p') := by
  have hin := (List.getElem?_eq_some_iff.1 hi).1
  have old : ∀ j q, j ≠ i → ps[j]? = some q → PlaceOk w' lo d q := fun j q hj hq => (h.P q (List.mem_of_getElem? hq)).others hs fun b hb => hk b ((h.P q (List.mem_of_getElem? hq)).inside hb).2 (fun e => h.X i j p q hi hq (fun e' => hj e'.symm) (e ▸ hb))
  refine ⟨fun q hq => ?_, fun j k a b ha hb hne => ?_⟩
  · obtain ⟨j, hj⟩ := List.getElem?_of_mem hq
    rw [List.getElem?_set] at hj
    by_cases e : i = j
    · rw [if_pos e] at hj; subst e; rw [if_pos hin] at hj; injection hj with hj; subst hj; exact hp
    · rw [if_neg e] at hj; exact old j q (fun e' => e e'.symm) hj
  · rw [List.getElem?_set] at ha hb
    by_cases ej : i = j
    · subst ej
      rw [if_pos rfl, if_pos hin] at ha
      injection ha with ha; subst ha
      rw [if_neg hne] at hb
      rw [hg]; exact h.X i k p b hi hb hne
    · rw [if_neg ej] at ha
      by_cases ek : i = k
      · subst ek
        rw [if_pos rfl, if_pos hin] at hb
        injection hb with hb; subst hb
        have hx := h.X j i a p ha hi (fun e => hne e)
        rintro (e | e)
        · exact hx (Or.inl (hg ▸ e))
        · rcases hr _ e with h1 | h1
          · exact hx (Or.inr h1)
          · have := (h.P a (List.mem_of_getElem? ha)).L.inside; omega
      · rw [if_neg ek] at hb
        exact h.X j k a b ha hb hne
end

/-- The row of the places' pointers. -/
structure Ptrs (w : World) (lo b n : Nat) (ps : List LV) : Prop where
  l : ps.length = n
  c : ∀ (k : Nat) (p : LV), ps[k]? = some p → w.cell? ⟨b, k, none⟩ = some p.ptr
  i : lo ≤ b ∧ b < w.heap.size
  x : ∀ p ∈ ps, ¬ p.has b

end Go.Proofs.YtpgoildfjkokiaaGreat
