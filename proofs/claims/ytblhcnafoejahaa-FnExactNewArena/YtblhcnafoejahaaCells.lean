/- The laws' marks: a row of the call's own is written over with numbers that rise, and later asked for them: markInt64S, markRect, heldInt64S, heldRect. What else lies in memory stays. -/
import Derived.Test.YtblhcnafoejahaaRects
import Derived.Test.YtblhcnafoejahaaCopies
import Derived.Deep.RegionHeld3
import Derived.Deep.RegionWith
import Derived.Deep.DeepCutAuto
import Derived.Test.YtblhcnafoejahaaEntries
namespace Go.Proofs.Ytblhcnafoejahaa
open Go.RowKit

/-- From w to w' nothing has turned but blocks in G (and what is new). -/
def Turned (G : Nat → Prop) (w w' : World) : Prop := (∀ B, (∀ k, G k → B ≤ k) → B ≤ w.heap.size → Below B w w') ∧ w.heap.size ≤ w'.heap.size ∧ ∀ k, k < w.heap.size → ¬ G k → w'.heap[k]? = w.heap[k]?

theorem Turned.of_below {G : Nat → Prop} {w w' : World} (h : Below w.heap.size w w') : Turned G w w' := ⟨fun _ _ hB => h.mono hB, h.size, fun k hk _ => h.block k hk⟩
theorem Turned.refl (G : Nat → Prop) (w : World) : Turned G w w := Turned.of_below (Below.refl _ _)
theorem Turned.trans {G : Nat → Prop} {w w1 w2 : World} (h : Turned G w w1) (h' : Turned G w1 w2) : Turned G w w2 :=
  ⟨fun B hG hB => (h.1 B hG hB).trans (h'.1 B hG (Nat.le_trans hB h.2.1)), Nat.le_trans h.2.1 h'.2.1, fun k hk hn => (h'.2.2 k (Nat.lt_of_lt_of_le hk h.2.1) hn).trans (h.2.2 k hk hn)⟩
theorem Turned.wider {G H : Nat → Prop} {w w' : World} (h : Turned G w w') (hh : ∀ k, G k → H k) : Turned H w w' := ⟨fun B hG hB => h.1 B (fun k hk => hG k (hh k hk)) hB, h.2.1, fun k hk hn => h.2.2 k hk (fun hg => hn (hh k hg))⟩
theorem Turned.setCell {G : Nat → Prop} {w w' : World} (h : Turned G w w') {a : Addr} (ha : G a.block) (v : Value) : Turned G w (w'.setCell a v) := by
  refine ⟨fun B hG hB => (h.1 B hG hB).setCell (hG _ ha) v, Nat.le_trans h.2.1 (by simp [World.setCell]), fun k hk hn => ?_⟩
  rw [heap_setCell_other w' a k v (fun e => hn (e ▸ ha))]
  exact h.2.2 k hk hn
theorem Turned.below {G : Nat → Prop} {a w w' : World} (h : Turned G w w') (hB : Below a.heap.size a w) (hG : ∀ k, G k → a.heap.size ≤ k) : Below a.heap.size a w' := hB.trans (h.1 _ hG hB.size)
theorem Turned.lies {G : Nat → Prop} {w w' : World} (h : Turned G w w') {g : Nat} {t : TypeId} {cs : Array Value} (hl : Lies w g t cs) (hg : ¬ G g) : Lies w' g t cs := (h.2.2 g hl.inside hg).trans hl
theorem Turned.own {G : Nat → Prop} {w w' : World} (h : Turned G w w') {g n : Nat} {xs : List Int} (ho : Own w g n xs) (hg : ¬ G g) : Own w' g n xs := ⟨ho.1, ho.2.of_block (h.2.2 g ho.2.lt hg)⟩
theorem Turned.ints {G : Nat → Prop} {w w' : World} (h : Turned G w w') {lo n : Nat} {A : Option Addr} {xs : List Int} (hi : Ints w lo A n xs) (hg : ∀ b o, A = some ⟨b, o, none⟩ → ¬ G b) : Ints w' lo A n xs := by
  obtain ⟨hl, hr⟩ := hi
  refine ⟨hl, fun hn => ?_⟩
  obtain ⟨b, o, e, h1, h2, h3⟩ := hr hn
  refine ⟨b, o, e, h1, Nat.lt_of_lt_of_le h2 h.2.1, fun k x hx => ?_⟩
  rw [World.cell?_of_block (w := w) (a := ⟨b, o + k, none⟩) (h.2.2 b h2 (hg b o e))]
  exact h3 k x hx

/-- The marks: n numbers from k on. -/
def marks (k : Int) (n : Nat) : List Int := (List.range n).map fun (i : Nat) => k + (i : Int)
theorem marks_len (k : Int) (n : Nat) : (marks k n).length = n := by simp [marks]
theorem marks_at (k : Int) {n i : Nat} (h : i < n) : (marks k n)[i]? = some (k + i) := by simp [marks, h]

set_option maxHeartbeats 1600000 in
theorem markInt64S_any (k : Int) (n c g : Nat) (xs : List Int) (w : World) (ho : Own w g n xs) (h0 : 0 ≤ k) (h1 : k ≤ 4398046511104) (hn : n ≤ 1048576) :
    Calls Try.prog 68 #[.slice (some ⟨g, 0, none⟩) n c, .int .i64 k] w fun e w' => e = .returned (.int .i64 (k + n)) ∧ Own w' g n (marks k n) ∧ Turned (fun x => x = g) w w' := by
  have HO := Lib.hid ho
  clear ho
  go_enter Try.func68, Try.ntmps68
  go_wp2
  go_loopw [1, 5] (fun kv i wr => ∃ j : Nat, j ≤ n ∧ i = .int .i64 j ∧ kv = .int .i64 (k + j) ∧ Hid (wr.rowIs g 2 n (fun i => .int .i64 (if i < j then k + i else xs.getD i 0))) ∧ Hid (Turned (fun x => x = g) w wr)) (fun _ i _ => n - (intOf i).toNat)
  case atStart => exact ⟨0, Nat.zero_le _, rfl, by simp, HO.out.2.congr fun i _ => by simp, Turned.refl _ _⟩
  case round =>
    obtain ⟨j, hj, rfl, rfl, hrow, hT⟩ := hrel
    by_cases hlt : j < n
    · have hc : wr.cell? ⟨g, j, none⟩ = some (.int .i64 (if j < j then k + j else xs.getD j 0)) := hrow.out.cell hlt
      have hf : wr.frozen? ⟨g, j, none⟩ = false := hrow.out.frozen j
      have hrow' : Hid ((wr.setCell ⟨g, j, none⟩ (.int .i64 (k + j))).rowIs g 2 n (fun i => .int .i64 (if i < j + 1 then k + i else xs.getD i 0))) := by
        refine (hrow.out.set j (.int .i64 (k + j))).congr fun i _ => ?_
        by_cases hij : i = j
        · subst hij; simp
        · rw [if_neg hij]
          by_cases h2 : i < j
          · rw [if_pos h2, if_pos (by omega)]
          · rw [if_neg h2, if_neg (by omega)]
      have hT' := Lib.hid (hT.out.setCell (a := ⟨g, j, none⟩) rfl (.int .i64 (k + j)))
      clear hrow hT
      go_wp2
      go_roundw
      case rel => exact ⟨j + 1, by omega, by go_num, by go_num, hrow', hT'⟩
      case measure => simp [intOf]; omega
    · have hjn : j = n := by omega
      subst hjn
      have HW : Hid (Own wr g j (marks k j)) := ⟨marks_len k j, hrow.out.congr fun i hi => by rw [if_pos hi]; simp [List.getD, marks_at k hi]⟩
      clear hrow
      go_wp2
      go_ret
      exact ⟨rfl, HW.out, hT.out⟩

set_option maxHeartbeats 1600000 in
theorem heldInt64S_any (k : Int) (n c lo : Nat) (A : Option Addr) (w : World) (hi : Ints w lo A n (marks k n)) (h0 : 0 ≤ k) (h1 : k ≤ 1099511627776) (hn : n ≤ 1048576) :
    Calls Try.prog 69 #[.slice A n c, .int .i64 k] w fun e w' => e = .returned (.int .i64 (k + n)) ∧ Below w.heap.size w w' := by
  have HI := Lib.hid hi
  clear hi
  go_enter Try.func69, Try.ntmps69
  go_wp2
  go_loopw [1, 5] (fun kv i wr => ∃ j : Nat, j ≤ n ∧ i = .int .i64 j ∧ kv = .int .i64 (k + j) ∧ Hid (Below w.heap.size w wr)) (fun _ i _ => n - (intOf i).toNat)
  case atStart => exact ⟨0, Nat.zero_le _, rfl, by simp, Below.refl _ _⟩
  case round =>
    obtain ⟨j, hj, rfl, rfl, hB⟩ := hrel
    by_cases hlt : j < n
    · obtain ⟨b, o, x, rfl, _, hbw, hc, hx⟩ := HI.out.cellAt hlt
      have hxe : x = k + j := by have h := hx.out; rw [marks_at k hlt] at h; injection h with h; exact h.symm
      subst hxe
      have hc' : wr.cell? ⟨b, o + j, none⟩ = some (.int .i64 (k + j)) := (hB.out.cell (p := ⟨b, o + j, none⟩) hbw).trans hc
      have hne : ((k + (j : Int)) != (k + (j : Int))) = false := by simp
      clear hc hx
      go_wp2
      go_roundw
      case rel => exact ⟨j + 1, by omega, by go_num, by go_num, hB⟩
      case measure => simp [intOf]; omega
    · have hjn : j = n := by omega
      subst hjn
      go_wp2
      go_ret
      exact ⟨rfl, hB.out⟩

end Go.Proofs.Ytblhcnafoejahaa

/- Small words for a region whose order Go leaves open and in which blocks are laid: what is kept from step to step, whatever the order. No condition. -/
namespace Go.Proofs.Ytblhcnafoejahaa
open Go.RowKit

/-- All that was there in w is as it was. -/
def Since (w W : World) : Prop := Below w.heap.size w W
theorem Since.of {w W : World} (h : Below w.heap.size w W) : Since w W := h
theorem Since.below {w W : World} (h : Since w W) : Below w.heap.size w W := h
theorem Since.alloc {w W : World} (h : Since w W) (o : Obj) : Since w (W.alloc o) := Below.alloc h (Below.size h) o
theorem Since.drew {w W : World} (h : Since w W) : Since w W.drew := Below.drew h
theorem Since.call {w W W' : World} (h : Since w W) (b : Below W.heap.size W W') : Since w W' := Below.trans h (b.mono (Below.size h))
theorem Since.setCell {w W : World} (h : Since w W) {a : Addr} (hp : w.heap.size ≤ a.block) (v : Value) : Since w (W.setCell a v) := Below.setCell h hp v
theorem Lies.call {W W' : World} {g : Nat} {t : TypeId} {cs : Array Value} (h : Lies W g t cs) (b : Below W.heap.size W W') : Lies W' g t cs := h.kept b h.inside
theorem Own.far' {w : World} {g n : Nat} {xs : List Int} (h : Own w g n xs) {a : Addr} (hne : g ≠ a.block) (v : Value) : Own (w.setCell a v) g n xs := ⟨h.1, h.2.setOther hne v⟩
theorem Own.call {W W' : World} {g n : Nat} {xs : List Int} (h : Own W g n xs) (b : Below W.heap.size W W') : Own W' g n xs := h.kept b
theorem Own.alloc {W : World} {g n : Nat} {xs : List Int} (h : Own W g n xs) (o : Obj) : Own (W.alloc o) g n xs := h.kept ((Below.refl _ _).alloc (Nat.le_refl _) o)
theorem Own.drew' {w : World} {g n : Nat} {xs : List Int} (h : Own w g n xs) : Own w.drew g n xs := h

theorem Lies.as {w : World} {g : Nat} {t : TypeId} {cs cs' : Array Value} (h : Lies w g t cs) (e : cs = cs') : Lies w g t cs' := e ▸ h

theorem Lies.laid {W : World} {g : Nat} {t : TypeId} {cs : Array Value} (e : g = W.heap.size) : Lies (W.alloc (.cells cs t)) g t cs := e ▸ Lies.new W t cs

theorem Lies.laid2 (W : World) (o : Obj) (t : TypeId) (cs : Array Value) : Lies ((W.alloc o).alloc (.cells cs t)) (W.heap.size + 1) t cs := by
  have h := Lies.new (W.alloc o) t cs
  simpa only [World.size_alloc] using h

theorem size_of_drew (w : World) : w.drew.heap.size = w.heap.size := rfl
theorem size_of_setCell (w : World) (a : Addr) (v : Value) : (w.setCell a v).heap.size = w.heap.size := by simp [World.setCell]
/-- A callee leaves every old cell as it was: two rules for the walk. -/
theorem cells_kept {W W' : World} (b : Below W.heap.size W W') : ∀ g o, g < W.heap.size → W'.cell? ⟨g, o, none⟩ = W.cell? ⟨g, o, none⟩ := fun g o h => b.cell (p := ⟨g, o, none⟩) h
theorem frozen_kept {W W' : World} (b : Below W.heap.size W W') : ∀ g o, g < W.heap.size → W'.frozen? ⟨g, o, none⟩ = W.frozen? ⟨g, o, none⟩ := fun g o h => b.frozen (p := ⟨g, o, none⟩) h
theorem sizes_kept {W W' : World} (b : Below W.heap.size W W') : W.heap.size ≤ W'.heap.size := b.size

end Go.Proofs.Ytblhcnafoejahaa

/- Marks as a list of cells: what a mark writes, what is held; the walks of the laws' markInt64S, heldInt64S, markEntryS, heldEntryS over such lists. -/
namespace Go.Proofs.Ytblhcnafoejahaa
open Go.RowKit

/-- The cells hold numbers, and may be written. -/
def Writ (w : World) (cs : List Addr) : Prop := ∀ c ∈ cs, (∃ x, w.cell? c = some (.int .i64 x)) ∧ w.frozen? c = false
/-- The cells hold k, k + 1 and so on. -/
def MarkAt (w : World) (k : Int) (cs : List Addr) : Prop := ∀ (i : Nat) (c : Addr), cs[i]? = some c → w.cell? c = some (.int .i64 (k + i))
/-- Nothing has turned but numbers in the cells cs. -/
structure Wrote (cs : List Addr) (w w' : World) : Prop where
  o : ∀ a, a ∉ cs → w'.cell? a = w.cell? a
  i : ∀ a ∈ cs, ∃ x, w'.cell? a = some (.int .i64 x)
  f : ∀ a, w'.frozen? a = w.frozen? a
  s : w'.heap.size = w.heap.size
  T : Turned (fun b => ∃ c ∈ cs, c.block = b) w w'
section
variable {w w1 w2 : World} {cs ds : List Addr} {k : Int}
theorem Wrote.refl (w : World) : Wrote [] w w := ⟨fun _ _ => rfl, fun a h => by simp at h, fun _ => rfl, rfl, Turned.refl _ _⟩
theorem Wrote.put (h : Wrote cs w w1) {c : Addr} {x : Int} (hc : ∃ y, w.cell? c = some (.int .i64 y)) : Wrote (cs ++ [c]) w (w1.setCell c (.int .i64 x)) := by
  have hc1 : ∃ y, w1.cell? c = some (.int .i64 y) := by
    by_cases hm : c ∈ cs
    · exact h.i c hm
    · obtain ⟨y, hy⟩ := hc; exact ⟨y, (h.o c hm).trans hy⟩
  obtain ⟨y, hy⟩ := hc1
  refine ⟨fun a ha => ?_, fun a ha => ?_, fun a => ?_, by rw [size_of_setCell]; exact h.s, Turned.setCell (h.T.wider fun b ⟨c', h1, h2⟩ => ⟨c', List.mem_append_left _ h1, h2⟩) ⟨c, by simp, rfl⟩ _⟩
  · rw [World.cell?_setCell_other _ _ _ _ (fun e => ha (by simp [e]))]
    exact h.o a (fun hm => ha (List.mem_append_left _ hm))
  · by_cases e : a = c
    · subst e; exact ⟨x, World.cell?_setCell_same _ _ _ hy⟩
    · rw [World.cell?_setCell_other _ _ _ _ (fun e' => e e'.symm)]
      rcases List.mem_append.1 ha with hm | hm
      · exact h.i a hm
      · simp only [List.mem_singleton] at hm; exact absurd hm e
  · rw [World.frozen?_setCell]; exact h.f a
theorem Wrote.trans (h : Wrote cs w w1) (h' : Wrote ds w1 w2) : Wrote (cs ++ ds) w w2 := by
  refine ⟨fun a ha => ?_, fun a ha => ?_, fun a => (h'.f a).trans (h.f a), h'.s.trans h.s, (h.T.wider fun b ⟨c', h1, h2⟩ => ⟨c', List.mem_append_left _ h1, h2⟩).trans (h'.T.wider fun b ⟨c', h1, h2⟩ => ⟨c', List.mem_append_right _ h1, h2⟩)⟩
  · rw [h'.o a (fun hm => ha (List.mem_append_right _ hm)), h.o a (fun hm => ha (List.mem_append_left _ hm))]
  · by_cases hm : a ∈ ds
    · exact h'.i a hm
    · rcases List.mem_append.1 ha with h1 | h1
      · obtain ⟨x, hx⟩ := h.i a h1; exact ⟨x, (h'.o a hm).trans hx⟩
      · exact absurd h1 hm
theorem Writ.wrote (h : Writ w ds) (hw : Wrote cs w w1) : Writ w1 ds := by
  intro c hc
  refine ⟨?_, (hw.f c).trans (h c hc).2⟩
  by_cases hm : c ∈ cs
  · exact hw.i c hm
  · obtain ⟨x, hx⟩ := (h c hc).1; exact ⟨x, (hw.o c hm).trans hx⟩
theorem Writ.left (h : Writ w (cs ++ ds)) : Writ w cs := fun c hc => h c (List.mem_append_left _ hc)
theorem Writ.right (h : Writ w (cs ++ ds)) : Writ w ds := fun c hc => h c (List.mem_append_right _ hc)
/-- What is no number stands as it was. -/
theorem Wrote.other (h : Wrote cs w w1) (hc : Writ w cs) {a : Addr} {v : Value} (ha : w.cell? a = some v) (hv : ∀ x, v ≠ .int .i64 x) : w1.cell? a = some v := by
  rw [h.o a (fun hm => by obtain ⟨x, hx⟩ := (hc a hm).1; rw [ha] at hx; injection hx with hx; exact hv x hx)]; exact ha
theorem MarkAt.nil (w : World) (k : Int) : MarkAt w k [] := fun i c h => by simp at h
theorem MarkAt.join (h1 : MarkAt w1 k cs) (h2 : MarkAt w2 (k + cs.length) ds) (hw : Wrote ds w1 w2) (hd : (cs ++ ds).Nodup) : MarkAt w2 k (cs ++ ds) := by
  intro i c hi
  have hdis := (List.nodup_append.1 hd).2.2
  rcases Nat.lt_or_ge i cs.length with hl | hl
  · rw [List.getElem?_append_left hl] at hi
    rw [hw.o c (fun hm => hdis c (List.mem_of_getElem? hi) c hm rfl)]
    exact h1 i c hi
  · rw [List.getElem?_append_right hl] at hi
    rw [h2 _ c hi]
    congr 2; omega
theorem MarkAt.left (h : MarkAt w k (cs ++ ds)) : MarkAt w k cs := fun i c hi => h i c (by rw [List.getElem?_append_left (List.getElem?_eq_some_iff.1 hi).1]; exact hi)
theorem MarkAt.right (h : MarkAt w k (cs ++ ds)) : MarkAt w (k + cs.length) ds := fun i c hi => by
  have := h (cs.length + i) c (by rw [List.getElem?_append_right (Nat.le_add_right _ _), Nat.add_sub_cancel_left]; exact hi)
  rw [this]; congr 2; omega
end

/-- The cells of a row of n numbers. -/
def intCells (A : Option Addr) (n : Nat) : List Addr := match A with | some a => (List.range n).map fun i => ⟨a.block, a.off + i, none⟩ | none => []
theorem intCells_next (b o n : Nat) : intCells (some ⟨b, o, none⟩) (n + 1) = intCells (some ⟨b, o, none⟩) n ++ [⟨b, o + n, none⟩] := by
  simp [intCells, List.range_succ]
theorem intCells_len (b o n : Nat) : (intCells (some ⟨b, o, none⟩) n).length = n := by simp [intCells]
theorem intCells_mem {b o n j : Nat} (h : j < n) : (⟨b, o + j, none⟩ : Addr) ∈ intCells (some ⟨b, o, none⟩) n := by
  simp only [intCells, List.mem_map, List.mem_range]; exact ⟨j, h, rfl⟩
theorem intCells_zero (A : Option Addr) : intCells A 0 = [] := by unfold intCells; split <;> rfl
theorem intCells_prefix {b o n j : Nat} (h : j ≤ n) : ∃ ds, intCells (some ⟨b, o, none⟩) n = intCells (some ⟨b, o, none⟩) j ++ ds := by
  obtain ⟨m, rfl⟩ := Nat.exists_eq_add_of_le h
  induction m with
  | zero => exact ⟨[], by simp⟩
  | succ m ih =>
    obtain ⟨ds, hd⟩ := ih (by omega)
    exact ⟨ds ++ [⟨b, o + (j + m), none⟩], by rw [← Nat.add_assoc, intCells_next, hd, List.append_assoc]⟩
def Formed (A : Option Addr) (n : Nat) : Prop := 0 < n → ∃ b o, A = some ⟨b, o, none⟩
theorem intCells_size {A : Option Addr} {n : Nat} (h : Formed A n) : (intCells A n).length = n := by
  rcases Nat.eq_zero_or_pos n with rfl | h0
  · rw [intCells_zero]; rfl
  · obtain ⟨b, o, rfl⟩ := h h0; exact intCells_len b o n

set_option maxHeartbeats 1600000 in
theorem markIntsD_any {D : Prop} (k : Int) (n c : Nat) (A : Option Addr) (w : World) (hA : Formed A n) (hw : Writ w (intCells A n)) (hd : D → (intCells A n).Nodup) (h0 : 0 ≤ k) (h1 : k ≤ 4398046511104) (hn : n ≤ 1048576) :
    Calls Try.prog 68 #[.slice A n c, .int .i64 k] w fun e w' => e = .returned (.int .i64 (k + n)) ∧ Wrote (intCells A n) w w' ∧ (D → MarkAt w' k (intCells A n)) := by
  have HA := Lib.hid hA
  have HW := Lib.hid hw
  have HD := Lib.hid hd
  clear hA hw hd
  go_enter Try.func68, Try.ntmps68
  go_wp2
  go_loopw [1, 5] (fun kv i wr => ∃ j : Nat, j ≤ n ∧ i = .int .i64 j ∧ kv = .int .i64 (k + j) ∧ Hid (Wrote (intCells A j) w wr ∧ (D → MarkAt wr k (intCells A j)))) (fun _ i _ => n - (intOf i).toNat)
  case atStart => exact ⟨0, Nat.zero_le _, rfl, by simp, by show _ ∧ _; rw [intCells_zero]; exact ⟨Wrote.refl _, fun _ => MarkAt.nil _ _⟩⟩
  case round =>
    obtain ⟨j, hj, rfl, rfl, hU⟩ := hrel
    by_cases hlt : j < n
    · obtain ⟨b, o, rfl⟩ := HA.out (by omega)
      have hWj := Lib.hid (HW.out ⟨b, o + j, none⟩ (intCells_mem hlt))
      obtain ⟨x, hx⟩ := (HW.out.wrote hU.out.1 ⟨b, o + j, none⟩ (intCells_mem hlt)).1
      have hf : wr.frozen? ⟨b, o + j, none⟩ = false := (hU.out.1.f _).trans hWj.out.2
      have hlt' : (j : Int) < (n : Int) := by omega
      have hU2 : Hid (Wrote (intCells (some ⟨b, o, none⟩) (j + 1)) w (wr.setCell ⟨b, o + j, none⟩ (.int .i64 (k + j))) ∧ (D → MarkAt (wr.setCell ⟨b, o + j, none⟩ (.int .i64 (k + j))) k (intCells (some ⟨b, o, none⟩) (j + 1)))) := by
        show _ ∧ _
        rw [intCells_next]
        have hput := hU.out.1.put (x := k + j) hWj.out.1
        refine ⟨hput, fun hD => ?_⟩
        have h1 : Wrote [(⟨b, o + j, none⟩ : Addr)] wr (wr.setCell ⟨b, o + j, none⟩ (.int .i64 (k + j))) := by
          have := (Wrote.refl wr).put (c := ⟨b, o + j, none⟩) (x := k + j) ⟨x, hx⟩
          simpa using this
        refine (hU.out.2 hD).join ?_ h1 ?_
        · intro i c hi
          have hi0 : i = 0 := by have := (List.getElem?_eq_some_iff.1 hi).1; simp at this; omega
          subst hi0
          simp only [List.getElem?_cons_zero, Option.some.injEq] at hi
          subst hi
          rw [intCells_len]
          simp only [World.cell?_setCell_same _ _ _ hx]
          congr 2; simp
        · obtain ⟨ds, hds⟩ := intCells_prefix (b := b) (o := o) (show j + 1 ≤ n by omega)
          have := HD.out hD
          rw [hds, intCells_next] at this
          exact (List.nodup_append.1 this).1
      clear hU hWj
      go_wp2
      go_roundw
      case rel => exact ⟨j + 1, by omega, by go_num, by go_num, hU2⟩
      case measure => simp [intOf]; omega
    · have hjn : j = n := by omega
      subst hjn
      go_wp2
      go_ret
      exact ⟨rfl, hU.out.1, hU.out.2⟩

theorem markInts_any (k : Int) (n c : Nat) (A : Option Addr) (w : World) (hA : Formed A n) (hw : Writ w (intCells A n)) (hd : (intCells A n).Nodup) (h0 : 0 ≤ k) (h1 : k ≤ 4398046511104) (hn : n ≤ 1048576) :
    Calls Try.prog 68 #[.slice A n c, .int .i64 k] w fun e w' => e = .returned (.int .i64 (k + n)) ∧ Wrote (intCells A n) w w' ∧ MarkAt w' k (intCells A n) :=
  (markIntsD_any (D := True) k n c A w hA hw (fun _ => hd) h0 h1 hn).mono fun _ _ ⟨h1, h2, h3⟩ => ⟨h1, h2, h3 trivial⟩

set_option maxHeartbeats 1600000 in
theorem heldInts_any (k : Int) (n c : Nat) (A : Option Addr) (w : World) (hA : Formed A n) (hm : MarkAt w k (intCells A n)) (h0 : 0 ≤ k) (h1 : k ≤ 4398046511104) (hn : n ≤ 1048576) :
    Calls Try.prog 69 #[.slice A n c, .int .i64 k] w fun e w' => e = .returned (.int .i64 (k + n)) ∧ w = w' := by
  have HA := Lib.hid hA
  have HM := Lib.hid hm
  clear hA hm
  go_enter Try.func69, Try.ntmps69
  go_wp2
  go_loopw [1, 5] (fun kv i wr => ∃ j : Nat, j ≤ n ∧ i = .int .i64 j ∧ kv = .int .i64 (k + j) ∧ wr = w) (fun _ i _ => n - (intOf i).toNat)
  case atStart => exact ⟨0, Nat.zero_le _, rfl, by simp, rfl⟩
  case round =>
    obtain ⟨j, hj, rfl, rfl, rfl⟩ := hrel
    by_cases hlt : j < n
    · obtain ⟨b, o, rfl⟩ := HA.out (by omega)
      have hx : wr.cell? ⟨b, o + j, none⟩ = some (.int .i64 (k + j)) := HM.out j ⟨b, o + j, none⟩ (by simp [intCells, hlt])
      have hlt' : (j : Int) < (n : Int) := by omega
      have hne : ((k + (j : Int)) != (k + (j : Int))) = false := by simp
      go_wp2
      go_roundw
      case rel => exact ⟨j + 1, by omega, by go_num, by go_num, by trivial⟩
      case measure => simp [intOf]; omega
    · have hjn : j = n := by omega
      subst hjn
      go_wp2
      go_ret
      exact ⟨rfl, rfl⟩

end Go.Proofs.Ytblhcnafoejahaa
