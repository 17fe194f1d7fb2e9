/- Marks as a list of cells: what a mark writes, what is held; the walks of the laws' markInt64S, heldInt64S, markEntryS, heldEntryS over such lists. -/
import Derived.Test.YtbnlgmcjklfcoaaEntries
import Derived.Test.YtbnlgmcjklfcoaaMarks
import Derived.Test.YtbnlgmcjklfcoaaOrders
namespace Go.Proofs.Ytbnlgmcjklfcoaa
open Go.RowKit

/-- The cells hold numbers, and may be written. -/
def Writ (w : World) (cs : List Addr) : Prop := ∀ c ∈ cs, (∃ x, w.cell? c = some (.int .i64 x)) ∧ w.frozen? c = false
/-- The cells hold k, k + 1 and so on. -/
def MarkAt (w : World) (k : Int) (cs : List Addr) : Prop := ∀ (i : Nat) (c : Addr), cs[i]? = some c → w.cell? c = some (.int .i64 (k + i))
/-- Nothing has turned but numbers in the cells cs. -/
structure Wrote (cs : List Addr) (w w' : World) : Prop where
  o : ∀ a, a ∉ cs → w'.cell? a = w.cell? a
  i : ∀ a ∈ cs, ∃ x, w'.cell? a = some (.int .i64 x)
  f : ∀ a, w'.frozen? a = w.frozen? a
  s : w'.heap.size = w.heap.size
  T : Turned (fun b => ∃ c ∈ cs, c.block = b) w w'
section
variable {w w1 w2 : World} {cs ds : List Addr} {k : Int}
theorem Wrote.refl (w : World) : Wrote [] w w := ⟨fun _ _ => rfl, fun a h => by simp at h, fun _ => rfl, rfl, Turned.refl _ _⟩
theorem Wrote.put (h : Wrote cs w w1) {c : Addr} {x : Int} (hc : ∃ y, w.cell? c = some (.int .i64 y)) : Wrote (cs ++ [c]) w (w1.setCell c (.int .i64 x)) := by
  have hc1 : ∃ y, w1.cell? c = some (.int .i64 y) := by
    by_cases hm : c ∈ cs
    · exact h.i c hm
    · obtain ⟨y, hy⟩ := hc; exact ⟨y, (h.o c hm).trans hy⟩
  obtain ⟨y, hy⟩ := hc1
  refine ⟨fun a ha => ?_, fun a ha => ?_, fun a => ?_, by rw [size_of_setCell]; exact h.s, Turned.setCell (h.T.wider fun b ⟨c', h1, h2⟩ => ⟨c', List.mem_append_left _ h1, h2⟩) ⟨c, by simp, rfl⟩ _⟩
  · rw [World.cell?_setCell_other _ _ _ _ (fun e => ha (by simp [e]))]
    exact h.o a (fun hm => ha (List.mem_append_left _ hm))
  · by_cases e : a = c
    · subst e; exact ⟨x, World.cell?_setCell_same _ _ _ hy⟩
    · rw [World.cell?_setCell_other _ _ _ _ (fun e' => e e'.symm)]
      rcases List.mem_append.1 ha with hm | hm
      · exact h.i a hm
      · simp only [List.mem_singleton] at hm; exact absurd hm e
  · rw [World.frozen?_setCell]; exact h.f a
theorem Wrote.trans (h : Wrote cs w w1) (h' : Wrote ds w1 w2) : Wrote (cs ++ ds) w w2 := by
  refine ⟨fun a ha => ?_, fun a ha => ?_, fun a => (h'.f a).trans (h.f a), h'.s.trans h.s, (h.T.wider fun b ⟨c', h1, h2⟩ => ⟨c', List.mem_append_left _ h1, h2⟩).trans (h'.T.wider fun b ⟨c', h1, h2⟩ => ⟨c', List.mem_append_right _ h1, h2⟩)⟩
  · rw [h'.o a (fun hm => ha (List.mem_append_right _ hm)), h.o a (fun hm => ha (List.mem_append_left _ hm))]
  · by_cases hm : a ∈ ds
    · exact h'.i a hm
    · rcases List.mem_append.1 ha with h1 | h1
      · obtain ⟨x, hx⟩ := h.i a h1; exact ⟨x, (h'.o a hm).trans hx⟩
      · exact absurd h1 hm
theorem Writ.wrote (h : Writ w ds) (hw : Wrote cs w w1) : Writ w1 ds := by
  intro c hc
  refine ⟨?_, (hw.f c).trans (h c hc).2⟩
  by_cases hm : c ∈ cs
  · exact hw.i c hm
  · obtain ⟨x, hx⟩ := (h c hc).1; exact ⟨x, (hw.o c hm).trans hx⟩
theorem Writ.left (h : Writ w (cs ++ ds)) : Writ w cs := fun c hc => h c (List.mem_append_left _ hc)
theorem Writ.right (h : Writ w (cs ++ ds)) : Writ w ds := fun c hc => h c (List.mem_append_right _ hc)
/-- What is no number stands as it was. -/
theorem Wrote.other (h : Wrote cs w w1) (hc : Writ w cs) {a : Addr} {v : Value} (ha : w.cell? a = some v) (hv : ∀ x, v ≠ .int .i64 x) : w1.cell? a = some v := by
  rw [h.o a (fun hm => by obtain ⟨x, hx⟩ := (hc a hm).1; rw [ha] at hx; injection hx with hx; exact hv x hx)]; exact ha
theorem MarkAt.nil (w : World) (k : Int) : MarkAt w k [] := fun i c h => by simp at h
theorem MarkAt.join (h1 : MarkAt w1 k cs) (h2 : MarkAt w2 (k + cs.length) ds) (hw : Wrote ds w1 w2) (hd : (cs ++ ds).Nodup) : MarkAt w2 k (cs ++ ds) := by
  intro i c hi
  have hdis := (List.nodup_append.1 hd).2.2
  rcases Nat.lt_or_ge i cs.length with hl | hl
  · rw [List.getElem?_append_left hl] at hi
    rw [hw.o c (fun hm => hdis c (List.mem_of_getElem? hi) c hm rfl)]
    exact h1 i c hi
  · rw [List.getElem?_append_right hl] at hi
    rw [h2 _ c hi]
    congr 2; omega
theorem MarkAt.left (h : MarkAt w k (cs ++ ds)) : MarkAt w k cs := fun i c hi => h i c (by rw [List.getElem?_append_left (List.getElem?_eq_some_iff.1 hi).1]; exact hi)
theorem MarkAt.right (h : MarkAt w k (cs ++ ds)) : MarkAt w (k + cs.length) ds := fun i c hi => by
  have := h (cs.length + i) c (by rw [List.getElem?_append_right (Nat.le_add_right _ _), Nat.add_sub_cancel_left]; exact hi)
  rw [this]; congr 2; omega
end

/-- The cells of a row of n numbers. -/
def intCells (A : Option Addr) (n : Nat) : List Addr := match A with | some a => (List.range n).map fun i => ⟨a.block, a.off + i, none⟩ | none => []
theorem intCells_next (b o n : Nat) : intCells (some ⟨b, o, none⟩) (n + 1) = intCells (some ⟨b, o, none⟩) n ++ [⟨b, o + n, none⟩] := by
  simp [intCells, List.range_succ]
theorem intCells_len (b o n : Nat) : (intCells (some ⟨b, o, none⟩) n).length = n := by simp [intCells]
theorem intCells_mem {b o n j : Nat} (h : j < n) : (⟨b, o + j, none⟩ : Addr) ∈ intCells (some ⟨b, o, none⟩) n := by
  simp only [intCells, List.mem_map, List.mem_range]; exact ⟨j, h, rfl⟩
theorem intCells_zero (A : Option Addr) : intCells A 0 = [] := by unfold intCells; split <;> rfl
theorem intCells_prefix {b o n j : Nat} (h : j ≤ n) : ∃ ds, intCells (some ⟨b, o, none⟩) n = intCells (some ⟨b, o, none⟩) j ++ ds := by
  obtain ⟨m, rfl⟩ := Nat.exists_eq_add_of_le h
  induction m with
  | zero => exact ⟨[], by simp⟩
  | succ m ih =>
    obtain ⟨ds, hd⟩ := ih (by omega)
    exact ⟨ds ++ [⟨b, o + (j + m), none⟩], by rw [← Nat.add_assoc, intCells_next, hd, List.append_assoc]⟩
def Formed (A : Option Addr) (n : Nat) : Prop := 0 < n → ∃ b o, A = some ⟨b, o, none⟩
theorem intCells_size {A : Option Addr} {n : Nat} (h : Formed A n) : (intCells A n).length = n := by
  rcases Nat.eq_zero_or_pos n with rfl | h0
  · rw [intCells_zero]; rfl
  · obtain ⟨b, o, rfl⟩ := h h0; exact intCells_len b o n

set_option maxHeartbeats 1600000 in
theorem markInts_any (k : Int) (n c : Nat) (A : Option Addr) (w : World) (hA : Formed A n) (hw : Writ w (intCells A n)) (hd : (intCells A n).Nodup) (h0 : 0 ≤ k) (h1 : k ≤ 4398046511104) (hn : n ≤ 1048576) :
    Calls Try.prog 91 #[.slice A n c, .int .i64 k] w fun e w' => e = .returned (.int .i64 (k + n)) ∧ Wrote (intCells A n) w w' ∧ MarkAt w' k (intCells A n) := by
  have HA := Lib.hid hA
  have HW := Lib.hid hw
  have HD := Lib.hid hd
  clear hA hw hd
  go_enter Try.func91, Try.ntmps91
  go_wp2
  go_loopw [1, 5] (fun kv i wr => ∃ j : Nat, j ≤ n ∧ i = .int .i64 j ∧ kv = .int .i64 (k + j) ∧ Hid (Wrote (intCells A j) w wr ∧ MarkAt wr k (intCells A j))) (fun _ i _ => n - (intOf i).toNat)
  case atStart => exact ⟨0, Nat.zero_le _, rfl, by simp, by show _ ∧ _; rw [intCells_zero]; exact ⟨Wrote.refl _, MarkAt.nil _ _⟩⟩
  case round =>
    obtain ⟨j, hj, rfl, rfl, hU⟩ := hrel
    by_cases hlt : j < n
    · obtain ⟨b, o, rfl⟩ := HA.out (by omega)
      have hWj := Lib.hid (HW.out ⟨b, o + j, none⟩ (intCells_mem hlt))
      obtain ⟨x, hx⟩ := (HW.out.wrote hU.out.1 ⟨b, o + j, none⟩ (intCells_mem hlt)).1
      have hf : wr.frozen? ⟨b, o + j, none⟩ = false := (hU.out.1.f _).trans hWj.out.2
      have hlt' : (j : Int) < (n : Int) := by omega
      have hU2 : Hid (Wrote (intCells (some ⟨b, o, none⟩) (j + 1)) w (wr.setCell ⟨b, o + j, none⟩ (.int .i64 (k + j))) ∧ MarkAt (wr.setCell ⟨b, o + j, none⟩ (.int .i64 (k + j))) k (intCells (some ⟨b, o, none⟩) (j + 1))) := by
        show _ ∧ _
        rw [intCells_next]
        have hput := hU.out.1.put (x := k + j) hWj.out.1
        refine ⟨hput, ?_⟩
        have h1 : Wrote [(⟨b, o + j, none⟩ : Addr)] wr (wr.setCell ⟨b, o + j, none⟩ (.int .i64 (k + j))) := by
          have := (Wrote.refl wr).put (c := ⟨b, o + j, none⟩) (x := k + j) ⟨x, hx⟩
          simpa using this
        refine hU.out.2.join ?_ h1 ?_
        · intro i c hi
          have hi0 : i = 0 := by have := (List.getElem?_eq_some_iff.1 hi).1; simp at this; omega
          subst hi0
          simp only [List.getElem?_cons_zero, Option.some.injEq] at hi
          subst hi
          rw [intCells_len]
          simp only [World.cell?_setCell_same _ _ _ hx]
          congr 2; simp
        · obtain ⟨ds, hds⟩ := intCells_prefix (b := b) (o := o) (show j + 1 ≤ n by omega)
          have := HD.out
          rw [hds, intCells_next] at this
          exact (List.nodup_append.1 this).1
      clear hU hWj
      go_wp2
      go_roundw
      case rel => exact ⟨j + 1, by omega, by go_num, by go_num, hU2⟩
      case measure => simp [intOf]; omega
    · have hjn : j = n := by omega
      subst hjn
      go_wp2
      go_ret
      exact ⟨rfl, hU.out.1, hU.out.2⟩

set_option maxHeartbeats 1600000 in
theorem heldInts_any (k : Int) (n c : Nat) (A : Option Addr) (w : World) (hA : Formed A n) (hm : MarkAt w k (intCells A n)) (h0 : 0 ≤ k) (h1 : k ≤ 4398046511104) (hn : n ≤ 1048576) :
    Calls Try.prog 92 #[.slice A n c, .int .i64 k] w fun e w' => e = .returned (.int .i64 (k + n)) ∧ w = w' := by
  have HA := Lib.hid hA
  have HM := Lib.hid hm
  clear hA hm
  go_enter Try.func92, Try.ntmps92
  go_wp2
  go_loopw [1, 5] (fun kv i wr => ∃ j : Nat, j ≤ n ∧ i = .int .i64 j ∧ kv = .int .i64 (k + j) ∧ wr = w) (fun _ i _ => n - (intOf i).toNat)
  case atStart => exact ⟨0, Nat.zero_le _, rfl, by simp, rfl⟩
  case round =>
    obtain ⟨j, hj, rfl, rfl, rfl⟩ := hrel
    by_cases hlt : j < n
    · obtain ⟨b, o, rfl⟩ := HA.out (by omega)
      have hx : wr.cell? ⟨b, o + j, none⟩ = some (.int .i64 (k + j)) := HM.out j ⟨b, o + j, none⟩ (by simp [intCells, hlt])
      have hlt' : (j : Int) < (n : Int) := by omega
      have hne : ((k + (j : Int)) != (k + (j : Int))) = false := by simp
      go_wp2
      go_roundw
      case rel => exact ⟨j + 1, by omega, by go_num, by go_num, by trivial⟩
      case measure => simp [intOf]; omega
    · have hjn : j = n := by omega
      subst hjn
      go_wp2
      go_ret
      exact ⟨rfl, rfl⟩

end Go.Proofs.Ytbnlgmcjklfcoaa
