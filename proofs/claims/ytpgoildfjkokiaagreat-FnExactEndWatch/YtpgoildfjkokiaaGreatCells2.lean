/- Marks as a list of cells: what a mark writes, what is held; the walks of the laws' markInt64S, heldInt64S, markEntryS, heldEntryS over such lists. -/
import Derived.Test.YtpgoildfjkokiaaGreatEntryLists
import Derived.Test.YtpgoildfjkokiaaGreatNodeRes
import Derived.Test.YtpgoildfjkokiaaGreatNodeLists
namespace Go.Proofs.YtpgoildfjkokiaaGreat
open Go.RowKit

/-- The cells hold numbers, and may be written. -/
def Writ (w : World) (cs : List Addr) : Prop := ∀ c ∈ cs, (∃ x, w.cell? c = some (.int .i64 x)) ∧ w.frozen? c = false
/-- The cells hold k, k + 1 and so on. -/
def MarkAt (w : World) (k : Int) (cs : List Addr) : Prop := ∀ (i : Nat) (c : Addr), cs[i]? = some c → w.cell? c = some (.int .i64 (k + i))
/-- Nothing has turned but numbers in the cells cs. -/
structure Wrote (cs : List Addr) (w w' : World) : Prop where
  o : ∀ a, a ∉ cs → w'.cell? a = w.cell? a
  i : ∀ a ∈ cs, ∃ x, w'.cell? a = some (.int .i64 x)
  f : ∀ a, w'.frozen? a = w.frozen? a
  s : w'.heap.size = w.heap.size
  T : Turned (fun b => ∃ c ∈ cs, c.block = b) w w'
section
variable {w w1 w2 : World} {cs ds : List Addr} {k : Int}
theorem Wrote.refl (w : World) : Wrote [] w w := ⟨fun _ _ => rfl, fun a h => by simp at h, fun _ => rfl, rfl, Turned.refl _ _⟩
theorem Wrote.put (h : Wrote cs w w1) {c : Addr} {x : Int} (hc : ∃ y, w.cell? c = some (.int .i64 y)) : Wrote (cs ++ [c]) w (w1.setCell c (.int .i64 x)) := by
  have hc1 : ∃ y, w1.cell? c = some (.int .i64 y) := by
    by_cases hm : c ∈ cs
    · exact h.i c hm
    · obtain ⟨y, hy⟩ := hc; exact ⟨y, (h.o c hm).trans hy⟩
  obtain ⟨y, hy⟩ := hc1
  refine ⟨fun a ha => ?_, fun a ha => ?_, fun a => ?_, by rw [size_of_setCell]; exact h.s, Turned.setCell (h.T.wider fun b ⟨c', h1, h2⟩ => ⟨c', List.mem_append_left _ h1, h2⟩) ⟨c, by simp, rfl⟩ _⟩
  · rw [World.cell?_setCell_other _ _ _ _ (fun e => ha (by simp [e]))]
    exact h.o a (fun hm => ha (List.mem_append_left _ hm))
  · by_cases e : a = c
    · subst e; exact ⟨x, World.cell?_setCell_same _ _ _ hy⟩
    · rw [World.cell?_setCell_other _ _ _ _ (fun e' => e e'.symm)]
      rcases List.mem_append.1 ha with hm | hm
      · exact h.i a hm
      · simp only [List.mem_singleton] at hm; exact absurd hm e
  · rw [World.frozen?_setCell]; exact h.f a
theorem Wrote.trans (h : Wrote cs w w1) (h' : Wrote ds w1 w2) : Wrote (cs ++ ds) w w2 := by
  refine ⟨fun a ha => ?_, fun a ha => ?_, fun a => (h'.f a).trans (h.f a), h'.s.trans h.s, (h.T.wider fun b ⟨c', h1, h2⟩ => ⟨c', List.mem_append_left _ h1, h2⟩).trans (h'.T.wider fun b ⟨c', h1, h2⟩ => ⟨c', List.mem_append_right _ h1, h2⟩)⟩
  · rw [h'.o a (fun hm => ha (List.mem_append_right _ hm)), h.o a (fun hm => ha (List.mem_append_left _ hm))]
  · by_cases hm : a ∈ ds
    · exact h'.i a hm
    · rcases List.mem_append.1 ha with h1 | h1
      · obtain ⟨x, hx⟩ := h.i a h1; exact ⟨x, (h'.o a hm).trans hx⟩
      · exact absurd h1 hm
theorem Writ.wrote (h : Writ w ds) (hw : Wrote cs w w1) : Writ w1 ds := by
  intro c hc
  refine ⟨?_, (hw.f c).trans (h c hc).2⟩
  by_cases hm : c ∈ cs
  · exact hw.i c hm
  · obtain ⟨x, hx⟩ := (h c hc).1; exact ⟨x, (hw.o c hm).trans hx⟩
theorem Writ.left (h : Writ w (cs ++ ds)) : Writ w cs := fun c hc => h c (List.mem_append_left _ hc)
theorem Writ.right (h : Writ w (cs ++ ds)) : Writ w ds := fun c hc => h c (List.mem_append_right _ hc)
/-- What is no number stands as it was. -/
theorem Wrote.other (h : Wrote cs w w1) (hc : Writ w cs) {a : Addr} {v : Value} (ha : w.cell? a = some v) (hv : ∀ x, v ≠ .int .i64 x) : w1.cell? a = some v := by
  rw [h.o a (fun hm => by obtain ⟨x, hx⟩ := (hc a hm).1; rw [ha] at hx; injection hx with hx; exact hv x hx)]; exact ha
theorem MarkAt.nil (w : World) (k : Int) : MarkAt w k [] := fun i c h => by simp at h
theorem MarkAt.join (h1 : MarkAt w1 k cs) (h2 : MarkAt w2 (k + cs.length) ds) (hw : Wrote ds w1 w2) (hd : (cs ++ ds).Nodup) : MarkAt w2 k (cs ++ ds) := by
  intro i c hi
  have hdis := (List.nodup_append.1 hd).2.2
  rcases Nat.lt_or_ge i cs.length with hl | hl
  · rw [List.getElem?_append_left hl] at hi
    rw [hw.o c (fun hm => hdis c (List.mem_of_getElem? hi) c hm rfl)]
    exact h1 i c hi
  · rw [List.getElem?_append_right hl] at hi
    rw [h2 _ c hi]
    congr 2; omega
theorem MarkAt.left (h : MarkAt w k (cs ++ ds)) : MarkAt w k cs := fun i c hi => h i c (by rw [List.getElem?_append_left (List.getElem?_eq_some_iff.1 hi).1]; exact hi)
theorem MarkAt.right (h : MarkAt w k (cs ++ ds)) : MarkAt w (k + cs.length) ds := fun i c hi => by
  have := h (cs.length + i) c (by rw [List.getElem?_append_right (Nat.le_add_right _ _), Nat.add_sub_cancel_left]; exact hi)
  rw [this]; congr 2; omega
end

/-- The cells of a row of n numbers. -/
def intCells (A : Option Addr) (n : Nat) : List Addr := match A with | some a => (List.range n).map fun i => ⟨a.block, a.off + i, none⟩ | none => []
theorem intCells_next (b o n : Nat) : intCells (some ⟨b, o, none⟩) (n + 1) = intCells (some ⟨b, o, none⟩) n ++ [⟨b, o + n, none⟩] := by
  simp [intCells, List.range_succ]
theorem intCells_len (b o n : Nat) : (intCells (some ⟨b, o, none⟩) n).length = n := by simp [intCells]
theorem intCells_mem {b o n j : Nat} (h : j < n) : (⟨b, o + j, none⟩ : Addr) ∈ intCells (some ⟨b, o, none⟩) n := by
  simp only [intCells, List.mem_map, List.mem_range]; exact ⟨j, h, rfl⟩
theorem intCells_zero (A : Option Addr) : intCells A 0 = [] := by unfold intCells; split <;> rfl
theorem intCells_prefix {b o n j : Nat} (h : j ≤ n) : ∃ ds, intCells (some ⟨b, o, none⟩) n = intCells (some ⟨b, o, none⟩) j ++ ds := by
  obtain ⟨m, rfl⟩ := Nat.exists_eq_add_of_le h
  induction m with
  | zero => exact ⟨[], by simp⟩
  | succ m ih =>
    obtain ⟨ds, hd⟩ := ih (by omega)
    exact ⟨ds ++ [⟨b, o + (j + m), none⟩], by rw [← Nat.add_assoc, intCells_next, hd, List.append_assoc]⟩
def Formed (A : Option Addr) (n : Nat) : Prop := 0 < n → ∃ b o, A = some ⟨b, o, none⟩
theorem intCells_size {A : Option Addr} {n : Nat} (h : Formed A n) : (intCells A n).length = n := by
  rcases Nat.eq_zero_or_pos n with rfl | h0
  · rw [intCells_zero]; rfl
  · obtain ⟨b, o, rfl⟩ := h h0; exact intCells_len b o n

set_option maxHeartbeats 1600000 in
theorem markIntsD_any {D : Prop} (k : Int) (n c : Nat) (A : Option Addr) (w : World) (hA : Formed A n) (hw : Writ w (intCells A n)) (hd : D → (intCells A n).Nodup) (h0 : 0 ≤ k) (h1 : k ≤ 4398046511104) (hn : n ≤ 1048576) :
    Calls Tryz.prog 26 #[.slice A n c, .int .i64 k] w fun e w' => e = .returned (.int .i64 (k + n)) ∧ Wrote (intCells A n) w w' ∧ (D → MarkAt w' k (intCells A n)) := by
  have HA := Lib.hid hA
  have HW := Lib.hid hw
  have HD := Lib.hid hd
  clear hA hw hd
  go_enter Tryz.func26, Tryz.ntmps26
  go_wp2
  go_loopw [1, 5] (fun kv i wr => ∃ j : Nat, j ≤ n ∧ i = .int .i64 j ∧ kv = .int .i64 (k + j) ∧ Hid (Wrote (intCells A j) w wr ∧ (D → MarkAt wr k (intCells A j)))) (fun _ i _ => n - (intOf i).toNat)
  case atStart => exact ⟨0, Nat.zero_le _, rfl, by simp, by show _ ∧ _; rw [intCells_zero]; exact ⟨Wrote.refl _, fun _ => MarkAt.nil _ _⟩⟩
  case round =>
    obtain ⟨j, hj, rfl, rfl, hU⟩ := hrel
    by_cases hlt : j < n
    · obtain ⟨b, o, rfl⟩ := HA.out (by omega)
      have hWj := Lib.hid (HW.out ⟨b, o + j, none⟩ (intCells_mem hlt))
      obtain ⟨x, hx⟩ := (HW.out.wrote hU.out.1 ⟨b, o + j, none⟩ (intCells_mem hlt)).1
      have hf : wr.frozen? ⟨b, o + j, none⟩ = false := (hU.out.1.f _).trans hWj.out.2
      have hlt' : (j : Int) < (n : Int) := by omega
      have hU2 : Hid (Wrote (intCells (some ⟨b, o, none⟩) (j + 1)) w (wr.setCell ⟨b, o + j, none⟩ (.int .i64 (k + j))) ∧ (D → MarkAt (wr.setCell ⟨b, o + j, none⟩ (.int .i64 (k + j))) k (intCells (some ⟨b, o, none⟩) (j + 1)))) := by
        show _ ∧ _
        rw [intCells_next]
        have hput := hU.out.1.put (x := k + j) hWj.out.1
        refine ⟨hput, fun hD => ?_⟩
        have h1 : Wrote [(⟨b, o + j, none⟩ : Addr)] wr (wr.setCell ⟨b, o + j, none⟩ (.int .i64 (k + j))) := by
          have := (Wrote.refl wr).put (c := ⟨b, o + j, none⟩) (x := k + j) ⟨x, hx⟩
          simpa using this
        refine (hU.out.2 hD).join ?_ h1 ?_
        · intro i c hi
          have hi0 : i = 0 := by have := (List.getElem?_eq_some_iff.1 hi).1; simp at this; omega
          subst hi0
          simp only [List.getElem?_cons_zero, Option.some.injEq] at hi
          subst hi
          rw [intCells_len]
          simp only [World.cell?_setCell_same _ _ _ hx]
          congr 2; simp
        · obtain ⟨ds, hds⟩ := intCells_prefix (b := b) (o := o) (show j + 1 ≤ n by omega)
          have := HD.out hD
          rw [hds, intCells_next] at this
          exact (List.nodup_append.1 this).1
      clear hU hWj
      go_wp2
      go_roundw
      case rel => exact ⟨j + 1, by omega, by go_num, by go_num, hU2⟩
      case measure => simp [intOf]; omega
    · have hjn : j = n := by omega
      subst hjn
      go_wp2
      go_ret
      exact ⟨rfl, hU.out.1, hU.out.2⟩

theorem markInts_any (k : Int) (n c : Nat) (A : Option Addr) (w : World) (hA : Formed A n) (hw : Writ w (intCells A n)) (hd : (intCells A n).Nodup) (h0 : 0 ≤ k) (h1 : k ≤ 4398046511104) (hn : n ≤ 1048576) :
    Calls Tryz.prog 26 #[.slice A n c, .int .i64 k] w fun e w' => e = .returned (.int .i64 (k + n)) ∧ Wrote (intCells A n) w w' ∧ MarkAt w' k (intCells A n) :=
  (markIntsD_any (D := True) k n c A w hA hw (fun _ => hd) h0 h1 hn).mono fun _ _ ⟨h1, h2, h3⟩ => ⟨h1, h2, h3 trivial⟩

set_option maxHeartbeats 1600000 in
theorem heldInts_any (k : Int) (n c : Nat) (A : Option Addr) (w : World) (hA : Formed A n) (hm : MarkAt w k (intCells A n)) (h0 : 0 ≤ k) (h1 : k ≤ 4398046511104) (hn : n ≤ 1048576) :
    Calls Tryz.prog 103 #[.slice A n c, .int .i64 k] w fun e w' => e = .returned (.int .i64 (k + n)) ∧ w = w' := by
  have HA := Lib.hid hA
  have HM := Lib.hid hm
  clear hA hm
  go_enter Tryz.func103, Tryz.ntmps103
  go_wp2
  go_loopw [1, 5] (fun kv i wr => ∃ j : Nat, j ≤ n ∧ i = .int .i64 j ∧ kv = .int .i64 (k + j) ∧ wr = w) (fun _ i _ => n - (intOf i).toNat)
  case atStart => exact ⟨0, Nat.zero_le _, rfl, by simp, rfl⟩
  case round =>
    obtain ⟨j, hj, rfl, rfl, rfl⟩ := hrel
    by_cases hlt : j < n
    · obtain ⟨b, o, rfl⟩ := HA.out (by omega)
      have hx : wr.cell? ⟨b, o + j, none⟩ = some (.int .i64 (k + j)) := HM.out j ⟨b, o + j, none⟩ (by simp [intCells, hlt])
      have hlt' : (j : Int) < (n : Int) := by omega
      have hne : ((k + (j : Int)) != (k + (j : Int))) = false := by simp
      go_wp2
      go_roundw
      case rel => exact ⟨j + 1, by omega, by go_num, by go_num, by trivial⟩
      case measure => simp [intOf]; omega
    · have hjn : j = n := by omega
      subst hjn
      go_wp2
      go_ret
      exact ⟨rfl, rfl⟩

end Go.Proofs.YtpgoildfjkokiaaGreat

/- Marks as a list of cells: entries and nodes. -/
namespace Go.Proofs.YtpgoildfjkokiaaGreat
open Go.RowKit

/-- The marks k, k + 1 and so on were written into the cells cs, and nothing else has turned. -/
def Pass (D : Prop) (k : Int) (cs : List Addr) (w w' : World) : Prop := Wrote cs w w' ∧ (D → MarkAt w' k cs)
section
variable {D : Prop} {w w1 w2 : World} {cs ds : List Addr} {k : Int}
theorem Pass.refl (k : Int) (w : World) : Pass D k [] w w := ⟨Wrote.refl w, fun _ => MarkAt.nil w k⟩
theorem Pass.then (h : Pass D k cs w w1) (h' : Pass D (k + cs.length) ds w1 w2) (hd : D → (cs ++ ds).Nodup) : Pass D k (cs ++ ds) w w2 := ⟨h.1.trans h'.1, fun hD => (h.2 hD).join (h'.2 hD) h'.1 (hd hD)⟩
theorem Pass.one {c : Addr} (hc : ∃ y, w.cell? c = some (.int .i64 y)) : Pass D k [c] w (w.setCell c (.int .i64 k)) := by
  have h1 := (Wrote.refl w).put (c := c) (x := k) hc
  obtain ⟨y, hy⟩ := hc
  refine ⟨by simpa using h1, fun _ i d hi => ?_⟩
  have hi0 : i = 0 := by have := (List.getElem?_eq_some_iff.1 hi).1; simp at this; omega
  subst hi0
  simp only [List.getElem?_cons_zero, Option.some.injEq] at hi
  subst hi
  rw [World.cell?_setCell_same _ _ _ hy]; simp
theorem nd_left (h : D → (cs ++ ds).Nodup) : D → cs.Nodup := fun hD => (List.nodup_append.1 (h hD)).1
theorem nd_right (h : D → (cs ++ ds).Nodup) : D → ds.Nodup := fun hD => (List.nodup_append.1 (h hD)).2.1
end

/-- The cells of the k-th entry of a row, and of a row of entries. -/
def entCells (b o k : Nat) (e : EV) : List Addr := intCells e.A1 e.n1 ++ (intCells e.A2 e.n2 ++ ([⟨b, o + k * 4 + 2, none⟩] ++ [⟨b, o + k * 4 + 3, none⟩]))
def esCells (b o : Nat) : Nat → List EV → List Addr
  | _, [] => []
  | k, e :: t => entCells b o k e ++ esCells b o (k + 1) t
theorem esCells_next {b o : Nat} : ∀ {es : List EV} {k j : Nat} {e : EV}, es[j]? = some e → esCells b o k (es.take (j + 1)) = esCells b o k (es.take j) ++ entCells b o (k + j) e
  | [], k, j, e, h => by simp at h
  | a :: t, k, 0, e, h => by simp at h; subst h; simp [esCells]
  | a :: t, k, j + 1, e, h => by
    simp only [List.take_succ_cons, esCells, List.append_assoc]
    rw [esCells_next (es := t) (k := k + 1) (j := j) (e := e) (by simpa using h), show k + 1 + j = k + (j + 1) by omega]
theorem esCells_part {b o : Nat} {es : List EV} {j : Nat} {e : EV} (h : es[j]? = some e) : ∃ ds, esCells b o 0 es = (esCells b o 0 (es.take j) ++ entCells b o j e) ++ ds := by
  have h1 : ∀ (l : List EV) (k : Nat) (m : List EV), esCells b o k (l ++ m) = esCells b o k l ++ esCells b o (k + l.length) m := by
    intro l
    induction l with
    | nil => intro k m; simp [esCells]
    | cons x l ih => intro k m; simp only [List.cons_append, esCells, ih, List.append_assoc, List.length_cons]; rw [show k + 1 + l.length = k + (l.length + 1) by omega]
  refine ⟨esCells b o (0 + (es.take (j + 1)).length) (es.drop (j + 1)), ?_⟩
  have h2 := esCells_next (b := b) (o := o) (k := 0) h
  rw [Nat.zero_add] at h2
  rw [← h2, ← h1, List.take_append_drop]
def esA (A : Option Addr) (es : List EV) : List Addr := match A with | some a => esCells a.block a.off 0 es | none => []
/-- The slices of entries: what a mark does not turn. -/
def EntSh (w : World) (A : Option Addr) (n : Nat) (es : List EV) : Prop :=
  es.length = n ∧ (0 < n → ∃ b o, A = some ⟨b, o, none⟩ ∧ ∀ (k : Nat) (e : EV), es[k]? = some e → w.cell? ⟨b, o + k * 4, none⟩ = some (.slice e.A1 e.n1 e.c1) ∧ w.cell? ⟨b, o + k * 4 + 1, none⟩ = some (.slice e.A2 e.n2 e.c2)) ∧ ∀ e ∈ es, Formed e.A1 e.n1 ∧ Formed e.A2 e.n2 ∧ e.n1 ≤ 1048576 ∧ e.n2 ≤ 1048576
theorem EntSh.wrote {w w' : World} {A : Option Addr} {n : Nat} {es : List EV} {cs : List Addr} (h : EntSh w A n es) (hw : Wrote cs w w') (hc : Writ w cs) : EntSh w' A n es := by
  refine ⟨h.1, fun h0 => ?_, h.2.2⟩
  obtain ⟨b, o, e, h1⟩ := h.2.1 h0
  exact ⟨b, o, e, fun k x hk => ⟨hw.other hc (h1 k x hk).1 (fun _ e => by simp at e), hw.other hc (h1 k x hk).2 (fun _ e => by simp at e)⟩⟩
theorem esA_nil (A : Option Addr) : esA A [] = [] := by unfold esA; split <;> rfl

set_option maxRecDepth 100000 in
set_option maxHeartbeats 3200000 in
theorem markEntriesC_any {D : Prop} (k : Int) (n c : Nat) (A : Option Addr) (es : List EV) (w : World) (hS : EntSh w A n es) (hw : Writ w (esA A es)) (hd : D → (esA A es).Nodup) (h0 : 0 ≤ k) (h1 : k + (esA A es).length ≤ 4398046511104) (hn : n ≤ 1048576) :
    Calls Tryz.prog 93 #[.slice A n c, .int .i64 k] w fun e w' => e = .returned (.int .i64 (k + (esA A es).length)) ∧ Pass D k (esA A es) w w' := by
  have HS := Lib.hid hS
  have HW := Lib.hid hw
  have HD := Lib.hid hd
  have HL : Hid (es.length = n) := hS.1
  clear hS hw hd
  go_enter Tryz.func93, Tryz.ntmps93
  go_wp2
  go_loopw [1, 5] (fun kv i wr => ∃ j : Nat, j ≤ n ∧ i = .int .i64 j ∧ kv = .int .i64 (k + (esA A (es.take j)).length) ∧ Hid (Pass D k (esA A (es.take j)) w wr)) (fun _ i _ => n - (intOf i).toNat)
  case atStart => exact ⟨0, Nat.zero_le _, rfl, by simp [esA_nil], by show Pass _ _ _ _ _; rw [List.take_zero, esA_nil]; exact Pass.refl _ _⟩
  case round =>
    obtain ⟨j, hj, rfl, rfl, hU⟩ := hrel
    by_cases hlt : j < n
    · obtain ⟨b, o, rfl, hcell⟩ := HS.out.2.1 (by omega)
      obtain ⟨e, he⟩ : ∃ e, es[j]? = some e := ⟨_, List.getElem?_eq_getElem (by have := HL.out; omega)⟩
      obtain ⟨hf1, hf2, hm1, hm2⟩ := HS.out.2.2 e (List.mem_of_getElem? he)
      obtain ⟨ds, hds⟩ := esCells_part (b := b) (o := o) he
      have hN := HD.out
      have hWr := HW.out
      simp only [esA] at hN hWr h1 hU ⊢
      rw [hds] at hN hWr h1
      have hnx := esCells_next (b := b) (o := o) (k := 0) he
      rw [Nat.zero_add] at hnx
      have HNX := Lib.hid hnx
      generalize hP : esCells b o 0 (es.take j) = P at *
      obtain ⟨p, hp⟩ : ∃ p : Nat, P.length = p := ⟨_, rfl⟩
      have hl1 := intCells_size hf1
      have hl2 := intCells_size hf2
      simp only [entCells, List.length_append, hl1, hl2, hp, List.length_cons, List.length_nil] at h1
      have N0 := nd_left hN
      have hW0 := hWr.left
      have wP := hW0.left
      have wE := hW0.right
      have cl := hcell j e he
      have q0 : wr.cell? ⟨b, o + j * 4, none⟩ = some (.slice e.A1 e.n1 e.c1) := hU.out.1.other wP cl.1 (fun _ e => by simp at e)
      have hlt' : (j : Int) < (n : Int) := by omega
      have WE := Lib.hid wE
      have NE := Lib.hid N0
      have WP := Lib.hid wP
      have CL := Lib.hid cl
      have F1 := Lib.hid hf1
      have F2 := Lib.hid hf2
      clear hN hWr N0 hW0 wP wE hcell hds hnx hP cl hf1 hf2
      rw [hp]
      go_wp2_with fail
      have TN : Hid (D → ((((P ++ intCells e.A1 e.n1) ++ intCells e.A2 e.n2) ++ [(⟨b, o + j * 4 + 2, none⟩ : Addr)]) ++ [(⟨b, o + j * 4 + 3, none⟩ : Addr)]).Nodup) := by
        intro hD
        have h := NE.out hD
        unfold entCells at h
        rw [← List.append_assoc, ← List.append_assoc, ← List.append_assoc] at h
        exact h
      have TW : Hid (Writ w ((((P ++ intCells e.A1 e.n1) ++ intCells e.A2 e.n2) ++ [(⟨b, o + j * 4 + 2, none⟩ : Addr)]) ++ [(⟨b, o + j * 4 + 3, none⟩ : Addr)])) := by
        intro x hx
        rw [List.append_assoc, List.append_assoc, List.append_assoc] at hx
        rcases List.mem_append.1 hx with hx | hx
        · exact WP.out x hx
        · exact WE.out x hx
      clear NE WE
      refine (markIntsD_any (D := D) _ _ _ _ _ F1.out (TW.out.left.left.left.right.wrote hU.out.1) (nd_right (nd_left (nd_left (nd_left TN.out)))) (by omega) (by omega) hm1).mono ?_
      rintro e' W1 ⟨rfl, hw1, hk1⟩
      have PS1 : Hid (Pass D k (P ++ intCells e.A1 e.n1) w W1) := hU.out.then (by rw [hp]; exact ⟨hw1, hk1⟩) (nd_left (nd_left (nd_left TN.out)))
      have hp1 : (k + (((P ++ intCells e.A1 e.n1).length : Nat) : Int)) = k + p + e.n1 := by rw [List.length_append, hp, hl1]; omega
      have q1 : W1.cell? ⟨b, o + j * 4 + 1, none⟩ = some (.slice e.A2 e.n2 e.c2) := PS1.out.1.other TW.out.left.left.left CL.out.2 (fun _ e => by simp at e)
      clear hw1 hk1 hU q0
      go_wp2_with fail
      refine (markIntsD_any (D := D) _ _ _ _ _ F2.out (TW.out.left.left.right.wrote PS1.out.1) (nd_right (nd_left (nd_left TN.out))) (by omega) (by omega) hm2).mono ?_
      rintro e' W2 ⟨rfl, hw2, hk2⟩
      have PS2 : Hid (Pass D k ((P ++ intCells e.A1 e.n1) ++ intCells e.A2 e.n2) w W2) := PS1.out.then (by rw [hp1]; exact ⟨hw2, hk2⟩) (nd_left (nd_left TN.out))
      have hp2 : (k + ((((P ++ intCells e.A1 e.n1) ++ intCells e.A2 e.n2).length : Nat) : Int)) = k + p + e.n1 + e.n2 := by rw [List.length_append, List.length_append, hp, hl1, hl2]; omega
      obtain ⟨y2, s2⟩ := (TW.out.left.right.wrote PS2.out.1 ⟨b, o + j * 4 + 2, none⟩ (by simp)).1
      have f2 : W2.frozen? ⟨b, o + j * 4 + 2, none⟩ = false := (TW.out.left.right.wrote PS2.out.1 ⟨b, o + j * 4 + 2, none⟩ (by simp)).2
      have PS3 : Hid (Pass D k (((P ++ intCells e.A1 e.n1) ++ intCells e.A2 e.n2) ++ [(⟨b, o + j * 4 + 2, none⟩ : Addr)]) w (W2.setCell ⟨b, o + j * 4 + 2, none⟩ (.int .i64 (k + p + e.n1 + e.n2)))) := PS2.out.then (by rw [hp2]; exact Pass.one ⟨y2, s2⟩) (nd_left TN.out)
      have hp3 : (k + (((((P ++ intCells e.A1 e.n1) ++ intCells e.A2 e.n2) ++ [(⟨b, o + j * 4 + 2, none⟩ : Addr)]).length : Nat) : Int)) = k + p + e.n1 + e.n2 + 1 := by rw [List.length_append, List.length_append, List.length_append, hp, hl1, hl2]; simp; omega
      obtain ⟨y3, s3⟩ := (TW.out.right.wrote PS3.out.1 ⟨b, o + j * 4 + 3, none⟩ (by simp)).1
      have f3 : (W2.setCell ⟨b, o + j * 4 + 2, none⟩ (.int .i64 (k + p + e.n1 + e.n2))).frozen? ⟨b, o + j * 4 + 3, none⟩ = false := (TW.out.right.wrote PS3.out.1 ⟨b, o + j * 4 + 3, none⟩ (by simp)).2
      have PS4 : Hid (Pass D k ((((P ++ intCells e.A1 e.n1) ++ intCells e.A2 e.n2) ++ [(⟨b, o + j * 4 + 2, none⟩ : Addr)]) ++ [(⟨b, o + j * 4 + 3, none⟩ : Addr)]) w ((W2.setCell ⟨b, o + j * 4 + 2, none⟩ (.int .i64 (k + p + e.n1 + e.n2))).setCell ⟨b, o + j * 4 + 3, none⟩ (.int .i64 (k + p + e.n1 + e.n2 + 1)))) := PS3.out.then (by rw [hp3]; exact Pass.one ⟨y3, s3⟩) TN.out
      have HEQ : Hid (esA (some ⟨b, o, none⟩) (es.take (j + 1)) = (((P ++ intCells e.A1 e.n1) ++ intCells e.A2 e.n2) ++ [(⟨b, o + j * 4 + 2, none⟩ : Addr)]) ++ [(⟨b, o + j * 4 + 3, none⟩ : Addr)]) := by
        show esA _ _ = _
        simp only [esA]
        rw [HNX.out]; unfold entCells
        rw [← List.append_assoc, ← List.append_assoc, ← List.append_assoc]
      have HLN : Hid ((((esA (some ⟨b, o, none⟩) (es.take (j + 1))).length : Nat) : Int) = p + e.n1 + e.n2 + 1 + 1) := by
        show ((List.length _ : Nat) : Int) = _
        rw [HEQ.out, List.length_append, List.length_append, List.length_append, List.length_append, hp, hl1, hl2]; simp <;> omega
      have PS5 : Hid (Pass D k (esA (some ⟨b, o, none⟩) (es.take (j + 1))) w ((W2.setCell ⟨b, o + j * 4 + 2, none⟩ (.int .i64 (k + p + e.n1 + e.n2))).setCell ⟨b, o + j * 4 + 3, none⟩ (.int .i64 (k + p + e.n1 + e.n2 + 1)))) := by show Pass _ _ _ _ _; rw [HEQ.out]; exact PS4.out
      clear hw2 hk2 PS1 PS2 PS3 PS4 q1 TN TW hp1 hp2 hp3 HEQ HNX
      go_wp2
      go_roundw
      case rel =>
        refine ⟨j + 1, by omega, by go_num, ?_, PS5⟩
        have h3 : ((esCells b o 0 (es.take (j + 1))).length : Int) = p + e.n1 + e.n2 + 1 + 1 := HLN.out
        rw [h3]
        congr 1; omega
      case measure => simp [intOf]; omega
    · have hjn : j = n := by omega
      subst hjn
      have hU2 : Hid (Pass D k (esA A es) w wr) := by have := hU.out; rwa [List.take_of_length_le (by rw [HL.out]; exact Nat.le_refl _)] at this
      have HLE : Hid ((esA A (es.take j)).length = (esA A es).length) := by show List.length _ = _; rw [List.take_of_length_le (by rw [HL.out]; exact Nat.le_refl _)]
      rw [HLE.out]
      clear hU
      go_wp2
      go_ret
      exact ⟨rfl, hU2.out⟩

set_option maxRecDepth 100000 in
set_option maxHeartbeats 3200000 in
theorem heldEntriesC_any (k : Int) (n c : Nat) (A : Option Addr) (es : List EV) (w : World) (hS : EntSh w A n es) (hm : MarkAt w k (esA A es)) (h0 : 0 ≤ k) (h1 : k + (esA A es).length ≤ 4398046511104) (hn : n ≤ 1048576) :
    Calls Tryz.prog 94 #[.slice A n c, .int .i64 k] w fun e w' => e = .returned (.int .i64 (k + (esA A es).length)) ∧ w = w' := by
  have HS := Lib.hid hS
  have HM := Lib.hid hm
  have HL : Hid (es.length = n) := hS.1
  clear hS hm
  go_enter Tryz.func94, Tryz.ntmps94
  go_wp2
  go_loopw [1, 5] (fun kv i wr => ∃ j : Nat, j ≤ n ∧ i = .int .i64 j ∧ kv = .int .i64 (k + (esA A (es.take j)).length) ∧ wr = w) (fun _ i _ => n - (intOf i).toNat)
  case atStart => exact ⟨0, Nat.zero_le _, rfl, by simp [esA_nil], rfl⟩
  case round =>
    obtain ⟨j, hj, rfl, rfl, rfl⟩ := hrel
    by_cases hlt : j < n
    · obtain ⟨b, o, rfl, hcell⟩ := HS.out.2.1 (by omega)
      obtain ⟨e, he⟩ : ∃ e, es[j]? = some e := ⟨_, List.getElem?_eq_getElem (by have := HL.out; omega)⟩
      obtain ⟨hf1, hf2, hm1, hm2⟩ := HS.out.2.2 e (List.mem_of_getElem? he)
      obtain ⟨ds, hds⟩ := esCells_part (b := b) (o := o) he
      have hMk := HM.out
      simp only [esA] at hMk h1 ⊢
      rw [hds] at hMk h1
      have hnx := esCells_next (b := b) (o := o) (k := 0) he
      rw [Nat.zero_add] at hnx
      have HNX := Lib.hid hnx
      generalize hP : esCells b o 0 (es.take j) = P at *
      obtain ⟨p, hp⟩ : ∃ p : Nat, P.length = p := ⟨_, rfl⟩
      have hl1 := intCells_size hf1
      have hl2 := intCells_size hf2
      simp only [entCells, List.length_append, hl1, hl2, hp, List.length_cons, List.length_nil] at h1
      have mE := hMk.left.right
      rw [hp] at mE
      unfold entCells at mE
      have M1 := Lib.hid mE.left
      have mE2 := mE.right
      rw [hl1] at mE2
      have M2 := Lib.hid mE2.left
      have mE3 := mE2.right
      rw [hl2] at mE3
      have s2 : wr.cell? ⟨b, o + j * 4 + 2, none⟩ = some (.int .i64 (k + p + e.n1 + e.n2)) := by have h := mE3 0 ⟨b, o + j * 4 + 2, none⟩ rfl; simpa using h
      have s3 : wr.cell? ⟨b, o + j * 4 + 3, none⟩ = some (.int .i64 (k + p + e.n1 + e.n2 + 1)) := mE3 1 ⟨b, o + j * 4 + 3, none⟩ rfl
      have cl := hcell j e he
      have q0 : wr.cell? ⟨b, o + j * 4, none⟩ = some (.slice e.A1 e.n1 e.c1) := cl.1
      have q1 : wr.cell? ⟨b, o + j * 4 + 1, none⟩ = some (.slice e.A2 e.n2 e.c2) := cl.2
      have hlt' : (j : Int) < (n : Int) := by omega
      have F1 := Lib.hid hf1
      have F2 := Lib.hid hf2
      have g1 : ¬ (k + (p : Int) + e.n1 < 0) := by omega
      have g2 : ¬ (k + (p : Int) + e.n1 + e.n2 < 0) := by omega
      have g3 : ((k + (p : Int) + e.n1 + e.n2) != (k + (p : Int) + e.n1 + e.n2)) = false := by simp
      have g4 : ((k + (p : Int) + e.n1 + e.n2 + 1) != (k + (p : Int) + e.n1 + e.n2 + 1)) = false := by simp
      have HLN : Hid ((((esCells b o 0 (es.take (j + 1))).length : Nat) : Int) = p + e.n1 + e.n2 + 1 + 1) := by
        show ((List.length _ : Nat) : Int) = _
        rw [HNX.out]; unfold entCells
        simp only [List.length_append, hp, hl1, hl2, List.length_cons, List.length_nil]; omega
      clear hMk hcell hds hnx hP cl hf1 hf2 mE mE2 mE3
      rw [hp]
      go_wp2_with fail
      refine (heldInts_any _ _ _ _ _ F1.out M1.out (by omega) (by omega) hm1).mono ?_
      rintro e' w' ⟨rfl, rfl⟩
      go_wp2_with fail
      refine (heldInts_any _ _ _ _ _ F2.out M2.out (by omega) (by omega) hm2).mono ?_
      rintro e' w' ⟨rfl, rfl⟩
      go_wp2
      go_roundw
      case rel =>
        refine ⟨j + 1, by omega, by go_num, ?_, by trivial⟩
        rw [HLN.out]
        congr 1; omega
      case measure => simp [intOf]; omega
    · have hjn : j = n := by omega
      subst hjn
      have HLE : Hid ((esA A (es.take j)).length = (esA A es).length) := by show List.length _ = _; rw [List.take_of_length_le (by rw [HL.out]; exact Nat.le_refl _)]
      rw [HLE.out]
      go_wp2
      go_ret
      exact ⟨rfl, rfl⟩

end Go.Proofs.YtpgoildfjkokiaaGreat
