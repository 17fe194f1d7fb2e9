/- Marks as a list of cells: nodes, retired places, arenas. -/
import Derived.Test.YtpgoildfjkokiaaGreatCells2
import Derived.Test.YtpgoildfjkokiaaGreatArenas
namespace Go.Proofs.YtpgoildfjkokiaaGreat
open Go.RowKit

/-- The cells of a row of things. -/
def rowC {α : Type} (f : Nat → α → List Addr) : Nat → List α → List Addr
  | _, [] => []
  | k, e :: t => f k e ++ rowC f (k + 1) t
theorem rowC_next {α : Type} {f : Nat → α → List Addr} : ∀ {es : List α} {k j : Nat} {e : α}, es[j]? = some e → rowC f k (es.take (j + 1)) = rowC f k (es.take j) ++ f (k + j) e
  | [], k, j, e, h => by simp at h
  | a :: t, k, 0, e, h => by simp at h; subst h; simp [rowC]
  | a :: t, k, j + 1, e, h => by
    simp only [List.take_succ_cons, rowC, List.append_assoc]
    rw [rowC_next (es := t) (k := k + 1) (j := j) (e := e) (by simpa using h), show k + 1 + j = k + (j + 1) by omega]
theorem rowC_part {α : Type} {f : Nat → α → List Addr} {es : List α} {j : Nat} {e : α} (h : es[j]? = some e) : ∃ ds, rowC f 0 es = (rowC f 0 (es.take j) ++ f j e) ++ ds := by
  have h1 : ∀ (l : List α) (k : Nat) (m : List α), rowC f k (l ++ m) = rowC f k l ++ rowC f (k + l.length) m := by
    intro l
    induction l with
    | nil => intro k m; simp [rowC]
    | cons x l ih => intro k m; simp only [List.cons_append, rowC, ih, List.append_assoc, List.length_cons]; rw [show k + 1 + l.length = k + (l.length + 1) by omega]
  refine ⟨rowC f (0 + (es.take (j + 1)).length) (es.drop (j + 1)), ?_⟩
  have h2 := rowC_next (f := f) (k := 0) h
  rw [Nat.zero_add] at h2
  rw [← h2, ← h1, List.take_append_drop]

/-- The cells of the k-th node of a row, and of a row of nodes. -/
def nodeCells (b o k : Nat) (e : NV) : List Addr := [⟨b, o + k * 4, none⟩] ++ ([⟨b, o + k * 4 + 1, none⟩] ++ ([⟨b, o + k * 4 + 2, none⟩] ++ esA e.A1 e.es))
def nsA (A : Option Addr) (es : List NV) : List Addr := match A with | some a => rowC (nodeCells a.block a.off) 0 es | none => []
theorem nsA_nil (A : Option Addr) : nsA A [] = [] := by unfold nsA; split <;> rfl
def NodeSh (w : World) (A : Option Addr) (n : Nat) (es : List NV) : Prop :=
  es.length = n ∧ (0 < n → ∃ b o, A = some ⟨b, o, none⟩ ∧ ∀ (k : Nat) (e : NV), es[k]? = some e → w.cell? ⟨b, o + k * 4 + 3, none⟩ = some (.slice e.A1 e.n1 e.c1)) ∧ ∀ e ∈ es, EntSh w e.A1 e.n1 e.es ∧ e.n1 ≤ 1048576
theorem NodeSh.wrote {w w' : World} {A : Option Addr} {n : Nat} {es : List NV} {cs : List Addr} (h : NodeSh w A n es) (hw : Wrote cs w w') (hc : Writ w cs) : NodeSh w' A n es := by
  refine ⟨h.1, fun h0 => ?_, fun e he => ⟨(h.2.2 e he).1.wrote hw hc, (h.2.2 e he).2⟩⟩
  obtain ⟨b, o, e, h1⟩ := h.2.1 h0
  exact ⟨b, o, e, fun k x hk => hw.other hc (h1 k x hk) (fun _ e => by simp at e)⟩
/-- The cells of the k-th retired place of a row, and of a row of them. -/
def retCells (b o k : Nat) (e : RV) : List Addr := [⟨b, o + k * 2, none⟩] ++ intCells e.A1 e.n1
def rsA (A : Option Addr) (es : List RV) : List Addr := match A with | some a => rowC (retCells a.block a.off) 0 es | none => []
theorem rsA_nil (A : Option Addr) : rsA A [] = [] := by unfold rsA; split <;> rfl
def RetSh (w : World) (A : Option Addr) (n : Nat) (es : List RV) : Prop :=
  es.length = n ∧ (0 < n → ∃ b o, A = some ⟨b, o, none⟩ ∧ ∀ (k : Nat) (e : RV), es[k]? = some e → w.cell? ⟨b, o + k * 2 + 1, none⟩ = some (.slice e.A1 e.n1 e.c1)) ∧ ∀ e ∈ es, Formed e.A1 e.n1 ∧ e.n1 ≤ 1048576
theorem RetSh.wrote {w w' : World} {A : Option Addr} {n : Nat} {es : List RV} {cs : List Addr} (h : RetSh w A n es) (hw : Wrote cs w w') (hc : Writ w cs) : RetSh w' A n es := by
  refine ⟨h.1, fun h0 => ?_, h.2.2⟩
  obtain ⟨b, o, e, h1⟩ := h.2.1 h0
  exact ⟨b, o, e, fun k x hk => hw.other hc (h1 k x hk) (fun _ e => by simp at e)⟩

theorem markRow_len {D : Prop} (k : Int) (n c le : Nat) (A : Option Addr) (w : World) (hA : Formed A n) (hw : Writ w (intCells A n)) (hd : D → (intCells A n).Nodup) (hl : (intCells A n).length = le) (h0 : 0 ≤ k) (h1 : k ≤ 4398046511104) (hn : n ≤ 1048576) :
    Calls Tryz.prog 26 #[.slice A n c, .int .i64 k] w fun e w' => e = .returned (.int .i64 (k + le)) ∧ Pass D k (intCells A n) w w' := by
  have := intCells_size hA
  obtain rfl : le = n := by omega
  exact markIntsD_any k le c A w hA hw hd h0 h1 hn
theorem heldRow_len (k : Int) (n c le : Nat) (A : Option Addr) (w : World) (hA : Formed A n) (hm : MarkAt w k (intCells A n)) (hl : (intCells A n).length = le) (h0 : 0 ≤ k) (h1 : k ≤ 4398046511104) (hn : n ≤ 1048576) :
    Calls Tryz.prog 103 #[.slice A n c, .int .i64 k] w fun e w' => e = .returned (.int .i64 (k + le)) ∧ w = w' := by
  have := intCells_size hA
  obtain rfl : le = n := by omega
  exact heldInts_any k le c A w hA hm h0 h1 hn
theorem markEnts_len {D : Prop} (k : Int) (n c le : Nat) (A : Option Addr) (es : List EV) (w : World) (hS : EntSh w A n es) (hw : Writ w (esA A es)) (hd : D → (esA A es).Nodup) (hl : (esA A es).length = le) (h0 : 0 ≤ k) (h1 : k + le ≤ 4398046511104) (hn : n ≤ 1048576) :
    Calls Tryz.prog 93 #[.slice A n c, .int .i64 k] w fun e w' => e = .returned (.int .i64 (k + le)) ∧ Pass D k (esA A es) w w' := by
  subst hl; exact markEntriesC_any k n c A es w hS hw hd h0 h1 hn
theorem heldEnts_len (k : Int) (n c le : Nat) (A : Option Addr) (es : List EV) (w : World) (hS : EntSh w A n es) (hm : MarkAt w k (esA A es)) (hl : (esA A es).length = le) (h0 : 0 ≤ k) (h1 : k + le ≤ 4398046511104) (hn : n ≤ 1048576) :
    Calls Tryz.prog 94 #[.slice A n c, .int .i64 k] w fun e w' => e = .returned (.int .i64 (k + le)) ∧ w = w' := by
  subst hl; exact heldEntriesC_any k n c A es w hS hm h0 h1 hn

set_option maxRecDepth 100000 in
set_option maxHeartbeats 3200000 in
theorem markNodesC_any {D : Prop} (k : Int) (n c : Nat) (A : Option Addr) (es : List NV) (w : World) (hS : NodeSh w A n es) (hw : Writ w (nsA A es)) (hd : D → (nsA A es).Nodup) (h0 : 0 ≤ k) (h1 : k + (nsA A es).length ≤ 4398046511104) (hn : n ≤ 1048576) :
    Calls Tryz.prog 54 #[.slice A n c, .int .i64 k] w fun e w' => e = .returned (.int .i64 (k + (nsA A es).length)) ∧ Pass D k (nsA A es) w w' := by
  have HS := Lib.hid hS
  have HW := Lib.hid hw
  have HD := Lib.hid hd
  have HL : Hid (es.length = n) := hS.1
  clear hS hw hd
  go_enter Tryz.func54, Tryz.ntmps54
  go_wp2
  go_loopw [1, 5] (fun kv i wr => ∃ j : Nat, j ≤ n ∧ i = .int .i64 j ∧ kv = .int .i64 (k + (nsA A (es.take j)).length) ∧ Hid (Pass D k (nsA A (es.take j)) w wr)) (fun _ i _ => n - (intOf i).toNat)
  case atStart => exact ⟨0, Nat.zero_le _, rfl, by simp [nsA_nil], by show Pass _ _ _ _ _; rw [List.take_zero, nsA_nil]; exact Pass.refl _ _⟩
  case round =>
    obtain ⟨j, hj, rfl, rfl, hU⟩ := hrel
    by_cases hlt : j < n
    · obtain ⟨b, o, rfl, hcell⟩ := HS.out.2.1 (by omega)
      obtain ⟨e, he⟩ : ∃ e, es[j]? = some e := ⟨_, List.getElem?_eq_getElem (by have := HL.out; omega)⟩
      obtain ⟨hsh, hm1⟩ := HS.out.2.2 e (List.mem_of_getElem? he)
      obtain ⟨ds, hds⟩ := rowC_part (f := nodeCells b o) he
      have hnx := rowC_next (f := nodeCells b o) (k := 0) he
      rw [Nat.zero_add] at hnx
      have HNX := Lib.hid hnx
      obtain ⟨le, hle⟩ : ∃ le : Nat, (esA e.A1 e.es).length = le := ⟨_, rfl⟩
      have hlt' : (j : Int) < (n : Int) := by omega
      have hN := HD.out
      have hWr := HW.out
      simp only [nsA] at hN hWr h1 hU ⊢
      rw [hds] at hN hWr h1
      generalize hP : rowC (nodeCells b o) 0 (es.take j) = P at *
      obtain ⟨p, hp⟩ : ∃ p : Nat, P.length = p := ⟨_, rfl⟩
      simp only [nodeCells, List.length_append, hp, hle, List.length_cons, List.length_nil] at h1
      have TN : Hid (D → (((((P ++ [(⟨b, o + j * 4, none⟩ : Addr)]) ++ [(⟨b, o + j * 4 + 1, none⟩ : Addr)]) ++ [(⟨b, o + j * 4 + 2, none⟩ : Addr)]) ++ esA e.A1 e.es)).Nodup) := by
        intro hD
        have h := nd_left hN hD
        unfold nodeCells at h
        rw [← List.append_assoc, ← List.append_assoc, ← List.append_assoc] at h
        exact h
      have TW : Hid (Writ w (((((P ++ [(⟨b, o + j * 4, none⟩ : Addr)]) ++ [(⟨b, o + j * 4 + 1, none⟩ : Addr)]) ++ [(⟨b, o + j * 4 + 2, none⟩ : Addr)]) ++ esA e.A1 e.es))) := by
        have h := hWr.left
        unfold nodeCells at h
        rw [← List.append_assoc, ← List.append_assoc, ← List.append_assoc] at h
        exact h
      have CL := Lib.hid (hcell j e he)
      have SH := Lib.hid hsh
      clear hN hWr hcell hds hnx hP hsh
      rw [hp]
      have hp0 : (k + (((P).length : Nat) : Int)) = k + p := by first | (simp only [List.length_append, hp, hle, List.length_cons, List.length_nil]; done) | (simp only [List.length_append, hp, hle, List.length_cons, List.length_nil]; omega)
      obtain ⟨y0, s0⟩ := (TW.out.left.left.left.right.wrote hU.out.1 ⟨b, o + j * 4, none⟩ (by simp)).1
      have f0 : wr.frozen? ⟨b, o + j * 4, none⟩ = false := (TW.out.left.left.left.right.wrote hU.out.1 ⟨b, o + j * 4, none⟩ (by simp)).2
      have PS0 : Hid (Pass D k (P ++ [(⟨b, o + j * 4, none⟩ : Addr)]) w (wr.setCell ⟨b, o + j * 4, none⟩ (.int .i64 (k + p)))) := hU.out.then (by rw [hp0]; exact Pass.one ⟨y0, s0⟩) (nd_left (nd_left (nd_left TN.out)))
      have hp1 : (k + ((((P ++ [(⟨b, o + j * 4, none⟩ : Addr)])).length : Nat) : Int)) = k + p + 1 := by first | (simp only [List.length_append, hp, hle, List.length_cons, List.length_nil]; done) | (simp only [List.length_append, hp, hle, List.length_cons, List.length_nil]; omega)
      obtain ⟨y1, s1⟩ := (TW.out.left.left.right.wrote PS0.out.1 ⟨b, o + j * 4 + 1, none⟩ (by simp)).1
      have f1 : (wr.setCell ⟨b, o + j * 4, none⟩ (.int .i64 (k + p))).frozen? ⟨b, o + j * 4 + 1, none⟩ = false := (TW.out.left.left.right.wrote PS0.out.1 ⟨b, o + j * 4 + 1, none⟩ (by simp)).2
      have PS1 : Hid (Pass D k ((P ++ [(⟨b, o + j * 4, none⟩ : Addr)]) ++ [(⟨b, o + j * 4 + 1, none⟩ : Addr)]) w ((wr.setCell ⟨b, o + j * 4, none⟩ (.int .i64 (k + p))).setCell ⟨b, o + j * 4 + 1, none⟩ (.int .i64 (k + p + 1)))) := PS0.out.then (by rw [hp1]; exact Pass.one ⟨y1, s1⟩) (nd_left (nd_left TN.out))
      have hp2 : (k + (((((P ++ [(⟨b, o + j * 4, none⟩ : Addr)]) ++ [(⟨b, o + j * 4 + 1, none⟩ : Addr)])).length : Nat) : Int)) = k + p + 1 + 1 := by first | (simp only [List.length_append, hp, hle, List.length_cons, List.length_nil]; done) | (simp only [List.length_append, hp, hle, List.length_cons, List.length_nil]; omega)
      obtain ⟨y2, s2⟩ := (TW.out.left.right.wrote PS1.out.1 ⟨b, o + j * 4 + 2, none⟩ (by simp)).1
      have f2 : ((wr.setCell ⟨b, o + j * 4, none⟩ (.int .i64 (k + p))).setCell ⟨b, o + j * 4 + 1, none⟩ (.int .i64 (k + p + 1))).frozen? ⟨b, o + j * 4 + 2, none⟩ = false := (TW.out.left.right.wrote PS1.out.1 ⟨b, o + j * 4 + 2, none⟩ (by simp)).2
      have PS2 : Hid (Pass D k (((P ++ [(⟨b, o + j * 4, none⟩ : Addr)]) ++ [(⟨b, o + j * 4 + 1, none⟩ : Addr)]) ++ [(⟨b, o + j * 4 + 2, none⟩ : Addr)]) w (((wr.setCell ⟨b, o + j * 4, none⟩ (.int .i64 (k + p))).setCell ⟨b, o + j * 4 + 1, none⟩ (.int .i64 (k + p + 1))).setCell ⟨b, o + j * 4 + 2, none⟩ (.int .i64 (k + p + 1 + 1)))) := PS1.out.then (by rw [hp2]; exact Pass.one ⟨y2, s2⟩) (nd_left TN.out)
      have hp3 : (k + ((((((P ++ [(⟨b, o + j * 4, none⟩ : Addr)]) ++ [(⟨b, o + j * 4 + 1, none⟩ : Addr)]) ++ [(⟨b, o + j * 4 + 2, none⟩ : Addr)])).length : Nat) : Int)) = k + p + 1 + 1 + 1 := by simp only [List.length_append, hp, hle, List.length_cons, List.length_nil]; omega
      have q0 : (((wr.setCell ⟨b, o + j * 4, none⟩ (.int .i64 (k + p))).setCell ⟨b, o + j * 4 + 1, none⟩ (.int .i64 (k + p + 1))).setCell ⟨b, o + j * 4 + 2, none⟩ (.int .i64 (k + p + 1 + 1))).cell? ⟨b, o + j * 4 + 3, none⟩ = some (.slice e.A1 e.n1 e.c1) := PS2.out.1.other TW.out.left CL.out (fun _ e => by simp at e)
      go_wp2_with fail
      refine (markEnts_len _ _ _ le _ e.es _ (SH.out.wrote PS2.out.1 TW.out.left) (TW.out.right.wrote PS2.out.1) (nd_right TN.out) hle (by omega) (by omega) hm1).mono ?_
      rintro e' W1 ⟨rfl, hpass⟩
      have PSL : Hid (Pass D k (((((P ++ [(⟨b, o + j * 4, none⟩ : Addr)]) ++ [(⟨b, o + j * 4 + 1, none⟩ : Addr)]) ++ [(⟨b, o + j * 4 + 2, none⟩ : Addr)]) ++ esA e.A1 e.es)) w W1) := PS2.out.then (by rw [hp3]; exact hpass) TN.out
      have HEQ : Hid (rowC (nodeCells b o) 0 (es.take (j + 1)) = ((((P ++ [(⟨b, o + j * 4, none⟩ : Addr)]) ++ [(⟨b, o + j * 4 + 1, none⟩ : Addr)]) ++ [(⟨b, o + j * 4 + 2, none⟩ : Addr)]) ++ esA e.A1 e.es)) := by
        show rowC _ _ _ = _
        rw [HNX.out]; unfold nodeCells
        rw [← List.append_assoc, ← List.append_assoc, ← List.append_assoc]
      have HLN : Hid ((((rowC (nodeCells b o) 0 (es.take (j + 1))).length : Nat) : Int) = p + 1 + 1 + 1 + le) := by
        show ((List.length _ : Nat) : Int) = _
        rw [HEQ.out]; simp only [List.length_append, hp, hle, List.length_cons, List.length_nil]; omega
      have PSN : Hid (Pass D k (rowC (nodeCells b o) 0 (es.take (j + 1))) w W1) := by show Pass _ _ _ _ _; rw [HEQ.out]; exact PSL.out
      clear hpass PSL q0 TN TW HEQ HNX hp0 hp1 hp2 hp3 PS0 PS1 PS2 s0 f0 s1 f1 s2 f2 hU
      go_wp2
      go_roundw
      case rel =>
        refine ⟨j + 1, by omega, by go_num, ?_, PSN⟩
        rw [HLN.out]
        congr 1; omega
      case measure => simp [intOf]; omega
    · have hjn : j = n := by omega
      subst hjn
      have hU2 : Hid (Pass D k (nsA A es) w wr) := by have := hU.out; rwa [List.take_of_length_le (by rw [HL.out]; exact Nat.le_refl _)] at this
      have HLE : Hid ((nsA A (es.take j)).length = (nsA A es).length) := by show List.length _ = _; rw [List.take_of_length_le (by rw [HL.out]; exact Nat.le_refl _)]
      rw [HLE.out]
      clear hU
      go_wp2
      go_ret
      exact ⟨rfl, hU2.out⟩

set_option maxRecDepth 100000 in
set_option maxHeartbeats 3200000 in
theorem heldNodesC_any (k : Int) (n c : Nat) (A : Option Addr) (es : List NV) (w : World) (hS : NodeSh w A n es) (hm : MarkAt w k (nsA A es)) (h0 : 0 ≤ k) (h1 : k + (nsA A es).length ≤ 4398046511104) (hn : n ≤ 1048576) :
    Calls Tryz.prog 102 #[.slice A n c, .int .i64 k] w fun e w' => e = .returned (.int .i64 (k + (nsA A es).length)) ∧ w = w' := by
  have HS := Lib.hid hS
  have HM := Lib.hid hm
  have HL : Hid (es.length = n) := hS.1
  clear hS hm
  go_enter Tryz.func102, Tryz.ntmps102
  go_wp2
  go_loopw [1, 5] (fun kv i wr => ∃ j : Nat, j ≤ n ∧ i = .int .i64 j ∧ kv = .int .i64 (k + (nsA A (es.take j)).length) ∧ wr = w) (fun _ i _ => n - (intOf i).toNat)
  case atStart => exact ⟨0, Nat.zero_le _, rfl, by simp [nsA_nil], rfl⟩
  case round =>
    obtain ⟨j, hj, rfl, rfl, rfl⟩ := hrel
    by_cases hlt : j < n
    · obtain ⟨b, o, rfl, hcell⟩ := HS.out.2.1 (by omega)
      obtain ⟨e, he⟩ : ∃ e, es[j]? = some e := ⟨_, List.getElem?_eq_getElem (by have := HL.out; omega)⟩
      obtain ⟨hsh, hm1⟩ := HS.out.2.2 e (List.mem_of_getElem? he)
      obtain ⟨ds, hds⟩ := rowC_part (f := nodeCells b o) he
      have hnx := rowC_next (f := nodeCells b o) (k := 0) he
      rw [Nat.zero_add] at hnx
      have HNX := Lib.hid hnx
      obtain ⟨le, hle⟩ : ∃ le : Nat, (esA e.A1 e.es).length = le := ⟨_, rfl⟩
      have hlt' : (j : Int) < (n : Int) := by omega
      have hMk := HM.out
      simp only [nsA] at hMk h1 ⊢
      rw [hds] at hMk h1
      generalize hP : rowC (nodeCells b o) 0 (es.take j) = P at *
      obtain ⟨p, hp⟩ : ∃ p : Nat, P.length = p := ⟨_, rfl⟩
      simp only [nodeCells, List.length_append, hp, hle, List.length_cons, List.length_nil] at h1
      have mE := hMk.left.right
      rw [hp] at mE
      unfold nodeCells at mE
      have s0 : wr.cell? ⟨b, o + j * 4, none⟩ = some (.int .i64 (k + p)) := by have h := mE.left 0 ⟨b, o + j * 4, none⟩ rfl; simpa using h
      have g0 : ((k + (p : Int)) != (k + (p : Int))) = false := by simp
      replace mE : MarkAt wr (k + p + 1) ([(⟨b, o + j * 4 + 1, none⟩ : Addr)] ++ ([(⟨b, o + j * 4 + 2, none⟩ : Addr)] ++ esA e.A1 e.es)) := mE.right
      have s1 : wr.cell? ⟨b, o + j * 4 + 1, none⟩ = some (.int .i64 (k + p + 1)) := by have h := mE.left 0 ⟨b, o + j * 4 + 1, none⟩ rfl; simpa using h
      have g1 : ((k + (p : Int) + 1) != (k + (p : Int) + 1)) = false := by simp
      replace mE : MarkAt wr (k + p + 1 + 1) ([(⟨b, o + j * 4 + 2, none⟩ : Addr)] ++ esA e.A1 e.es) := mE.right
      have s2 : wr.cell? ⟨b, o + j * 4 + 2, none⟩ = some (.int .i64 (k + p + 1 + 1)) := by have h := mE.left 0 ⟨b, o + j * 4 + 2, none⟩ rfl; simpa using h
      have g2 : ((k + (p : Int) + 1 + 1) != (k + (p : Int) + 1 + 1)) = false := by simp
      replace mE : MarkAt wr (k + p + 1 + 1 + 1) (esA e.A1 e.es) := mE.right
      have ME := Lib.hid mE
      have SH := Lib.hid hsh
      have q0 : wr.cell? ⟨b, o + j * 4 + 3, none⟩ = some (.slice e.A1 e.n1 e.c1) := hcell j e he
      have gl : ¬ (k + (p : Int) + 1 + 1 + 1 + (le : Int) < 0) := by omega
      have HLN : Hid ((((rowC (nodeCells b o) 0 (es.take (j + 1))).length : Nat) : Int) = p + 1 + 1 + 1 + le) := by
        show ((List.length _ : Nat) : Int) = _
        rw [HNX.out]; unfold nodeCells
        simp only [List.length_append, hp, hle, List.length_cons, List.length_nil]; omega
      clear hMk hcell hds hnx hP mE hsh
      rw [hp]
      go_wp2_with fail
      refine (heldEnts_len _ _ _ le _ e.es _ SH.out ME.out hle (by omega) (by omega) hm1).mono ?_
      rintro e' w' ⟨rfl, rfl⟩
      go_wp2
      go_roundw
      case rel =>
        refine ⟨j + 1, by omega, by go_num, ?_, by trivial⟩
        rw [HLN.out]
        congr 1; omega
      case measure => simp [intOf]; omega
    · have hjn : j = n := by omega
      subst hjn
      have HLE : Hid ((nsA A (es.take j)).length = (nsA A es).length) := by show List.length _ = _; rw [List.take_of_length_le (by rw [HL.out]; exact Nat.le_refl _)]
      rw [HLE.out]
      go_wp2
      go_ret
      exact ⟨rfl, rfl⟩

set_option maxRecDepth 100000 in
set_option maxHeartbeats 3200000 in
theorem markRetsC_any {D : Prop} (k : Int) (n c : Nat) (A : Option Addr) (es : List RV) (w : World) (hS : RetSh w A n es) (hw : Writ w (rsA A es)) (hd : D → (rsA A es).Nodup) (h0 : 0 ≤ k) (h1 : k + (rsA A es).length ≤ 4398046511104) (hn : n ≤ 1048576) :
    Calls Tryz.prog 55 #[.slice A n c, .int .i64 k] w fun e w' => e = .returned (.int .i64 (k + (rsA A es).length)) ∧ Pass D k (rsA A es) w w' := by
  have HS := Lib.hid hS
  have HW := Lib.hid hw
  have HD := Lib.hid hd
  have HL : Hid (es.length = n) := hS.1
  clear hS hw hd
  go_enter Tryz.func55, Tryz.ntmps55
  go_wp2
  go_loopw [1, 5] (fun kv i wr => ∃ j : Nat, j ≤ n ∧ i = .int .i64 j ∧ kv = .int .i64 (k + (rsA A (es.take j)).length) ∧ Hid (Pass D k (rsA A (es.take j)) w wr)) (fun _ i _ => n - (intOf i).toNat)
  case atStart => exact ⟨0, Nat.zero_le _, rfl, by simp [rsA_nil], by show Pass _ _ _ _ _; rw [List.take_zero, rsA_nil]; exact Pass.refl _ _⟩
  case round =>
    obtain ⟨j, hj, rfl, rfl, hU⟩ := hrel
    by_cases hlt : j < n
    · obtain ⟨b, o, rfl, hcell⟩ := HS.out.2.1 (by omega)
      obtain ⟨e, he⟩ : ∃ e, es[j]? = some e := ⟨_, List.getElem?_eq_getElem (by have := HL.out; omega)⟩
      obtain ⟨hsh, hm1⟩ := HS.out.2.2 e (List.mem_of_getElem? he)
      obtain ⟨ds, hds⟩ := rowC_part (f := retCells b o) he
      have hnx := rowC_next (f := retCells b o) (k := 0) he
      rw [Nat.zero_add] at hnx
      have HNX := Lib.hid hnx
      obtain ⟨le, hle⟩ : ∃ le : Nat, (intCells e.A1 e.n1).length = le := ⟨_, rfl⟩
      have hlt' : (j : Int) < (n : Int) := by omega
      have hN := HD.out
      have hWr := HW.out
      simp only [rsA] at hN hWr h1 hU ⊢
      rw [hds] at hN hWr h1
      generalize hP : rowC (retCells b o) 0 (es.take j) = P at *
      obtain ⟨p, hp⟩ : ∃ p : Nat, P.length = p := ⟨_, rfl⟩
      simp only [retCells, List.length_append, hp, hle, List.length_cons, List.length_nil] at h1
      have TN : Hid (D → (((P ++ [(⟨b, o + j * 2, none⟩ : Addr)]) ++ intCells e.A1 e.n1)).Nodup) := by
        intro hD
        have h := nd_left hN hD
        unfold retCells at h
        rw [← List.append_assoc] at h
        exact h
      have TW : Hid (Writ w (((P ++ [(⟨b, o + j * 2, none⟩ : Addr)]) ++ intCells e.A1 e.n1))) := by
        have h := hWr.left
        unfold retCells at h
        rw [← List.append_assoc] at h
        exact h
      have CL := Lib.hid (hcell j e he)
      have SH := Lib.hid hsh
      clear hN hWr hcell hds hnx hP hsh
      rw [hp]
      have hp0 : (k + (((P).length : Nat) : Int)) = k + p := by first | (simp only [List.length_append, hp, hle, List.length_cons, List.length_nil]; done) | (simp only [List.length_append, hp, hle, List.length_cons, List.length_nil]; omega)
      obtain ⟨y0, s0⟩ := (TW.out.left.right.wrote hU.out.1 ⟨b, o + j * 2, none⟩ (by simp)).1
      have f0 : wr.frozen? ⟨b, o + j * 2, none⟩ = false := (TW.out.left.right.wrote hU.out.1 ⟨b, o + j * 2, none⟩ (by simp)).2
      have PS0 : Hid (Pass D k (P ++ [(⟨b, o + j * 2, none⟩ : Addr)]) w (wr.setCell ⟨b, o + j * 2, none⟩ (.int .i64 (k + p)))) := hU.out.then (by rw [hp0]; exact Pass.one ⟨y0, s0⟩) (nd_left TN.out)
      have hp1 : (k + ((((P ++ [(⟨b, o + j * 2, none⟩ : Addr)])).length : Nat) : Int)) = k + p + 1 := by simp only [List.length_append, hp, hle, List.length_cons, List.length_nil]; omega
      have q0 : (wr.setCell ⟨b, o + j * 2, none⟩ (.int .i64 (k + p))).cell? ⟨b, o + j * 2 + 1, none⟩ = some (.slice e.A1 e.n1 e.c1) := PS0.out.1.other TW.out.left CL.out (fun _ e => by simp at e)
      go_wp2_with fail
      refine (markRow_len _ _ _ le _ _ SH.out (TW.out.right.wrote PS0.out.1) (nd_right TN.out) hle (by omega) (by omega) hm1).mono ?_
      rintro e' W1 ⟨rfl, hpass⟩
      have PSL : Hid (Pass D k (((P ++ [(⟨b, o + j * 2, none⟩ : Addr)]) ++ intCells e.A1 e.n1)) w W1) := PS0.out.then (by rw [hp1]; exact hpass) TN.out
      have HEQ : Hid (rowC (retCells b o) 0 (es.take (j + 1)) = ((P ++ [(⟨b, o + j * 2, none⟩ : Addr)]) ++ intCells e.A1 e.n1)) := by
        show rowC _ _ _ = _
        rw [HNX.out]; unfold retCells
        rw [← List.append_assoc]
      have HLN : Hid ((((rowC (retCells b o) 0 (es.take (j + 1))).length : Nat) : Int) = p + 1 + le) := by
        show ((List.length _ : Nat) : Int) = _
        rw [HEQ.out]; simp only [List.length_append, hp, hle, List.length_cons, List.length_nil]; omega
      have PSN : Hid (Pass D k (rowC (retCells b o) 0 (es.take (j + 1))) w W1) := by show Pass _ _ _ _ _; rw [HEQ.out]; exact PSL.out
      clear hpass PSL q0 TN TW HEQ HNX hp0 hp1 PS0 s0 f0 hU
      go_wp2
      go_roundw
      case rel =>
        refine ⟨j + 1, by omega, by go_num, ?_, PSN⟩
        rw [HLN.out]
        congr 1; omega
      case measure => simp [intOf]; omega
    · have hjn : j = n := by omega
      subst hjn
      have hU2 : Hid (Pass D k (rsA A es) w wr) := by have := hU.out; rwa [List.take_of_length_le (by rw [HL.out]; exact Nat.le_refl _)] at this
      have HLE : Hid ((rsA A (es.take j)).length = (rsA A es).length) := by show List.length _ = _; rw [List.take_of_length_le (by rw [HL.out]; exact Nat.le_refl _)]
      rw [HLE.out]
      clear hU
      go_wp2
      go_ret
      exact ⟨rfl, hU2.out⟩

set_option maxRecDepth 100000 in
set_option maxHeartbeats 3200000 in
theorem heldRetsC_any (k : Int) (n c : Nat) (A : Option Addr) (es : List RV) (w : World) (hS : RetSh w A n es) (hm : MarkAt w k (rsA A es)) (h0 : 0 ≤ k) (h1 : k + (rsA A es).length ≤ 4398046511104) (hn : n ≤ 1048576) :
    Calls Tryz.prog 104 #[.slice A n c, .int .i64 k] w fun e w' => e = .returned (.int .i64 (k + (rsA A es).length)) ∧ w = w' := by
  have HS := Lib.hid hS
  have HM := Lib.hid hm
  have HL : Hid (es.length = n) := hS.1
  clear hS hm
  go_enter Tryz.func104, Tryz.ntmps104
  go_wp2
  go_loopw [1, 5] (fun kv i wr => ∃ j : Nat, j ≤ n ∧ i = .int .i64 j ∧ kv = .int .i64 (k + (rsA A (es.take j)).length) ∧ wr = w) (fun _ i _ => n - (intOf i).toNat)
  case atStart => exact ⟨0, Nat.zero_le _, rfl, by simp [rsA_nil], rfl⟩
  case round =>
    obtain ⟨j, hj, rfl, rfl, rfl⟩ := hrel
    by_cases hlt : j < n
    · obtain ⟨b, o, rfl, hcell⟩ := HS.out.2.1 (by omega)
      obtain ⟨e, he⟩ : ∃ e, es[j]? = some e := ⟨_, List.getElem?_eq_getElem (by have := HL.out; omega)⟩
      obtain ⟨hsh, hm1⟩ := HS.out.2.2 e (List.mem_of_getElem? he)
      obtain ⟨ds, hds⟩ := rowC_part (f := retCells b o) he
      have hnx := rowC_next (f := retCells b o) (k := 0) he
      rw [Nat.zero_add] at hnx
      have HNX := Lib.hid hnx
      obtain ⟨le, hle⟩ : ∃ le : Nat, (intCells e.A1 e.n1).length = le := ⟨_, rfl⟩
      have hlt' : (j : Int) < (n : Int) := by omega
      have hMk := HM.out
      simp only [rsA] at hMk h1 ⊢
      rw [hds] at hMk h1
      generalize hP : rowC (retCells b o) 0 (es.take j) = P at *
      obtain ⟨p, hp⟩ : ∃ p : Nat, P.length = p := ⟨_, rfl⟩
      simp only [retCells, List.length_append, hp, hle, List.length_cons, List.length_nil] at h1
      have mE := hMk.left.right
      rw [hp] at mE
      unfold retCells at mE
      have s0 : wr.cell? ⟨b, o + j * 2, none⟩ = some (.int .i64 (k + p)) := by have h := mE.left 0 ⟨b, o + j * 2, none⟩ rfl; simpa using h
      have g0 : ((k + (p : Int)) != (k + (p : Int))) = false := by simp
      replace mE : MarkAt wr (k + p + 1) (intCells e.A1 e.n1) := mE.right
      have ME := Lib.hid mE
      have SH := Lib.hid hsh
      have q0 : wr.cell? ⟨b, o + j * 2 + 1, none⟩ = some (.slice e.A1 e.n1 e.c1) := hcell j e he
      have gl : ¬ (k + (p : Int) + 1 + (le : Int) < 0) := by omega
      have HLN : Hid ((((rowC (retCells b o) 0 (es.take (j + 1))).length : Nat) : Int) = p + 1 + le) := by
        show ((List.length _ : Nat) : Int) = _
        rw [HNX.out]; unfold retCells
        simp only [List.length_append, hp, hle, List.length_cons, List.length_nil]; omega
      clear hMk hcell hds hnx hP mE hsh
      rw [hp]
      go_wp2_with fail
      refine (heldRow_len _ _ _ le _ _ SH.out ME.out hle (by omega) (by omega) hm1).mono ?_
      rintro e' w' ⟨rfl, rfl⟩
      go_wp2
      go_roundw
      case rel =>
        refine ⟨j + 1, by omega, by go_num, ?_, by trivial⟩
        rw [HLN.out]
        congr 1; omega
      case measure => simp [intOf]; omega
    · have hjn : j = n := by omega
      subst hjn
      have HLE : Hid ((rsA A (es.take j)).length = (rsA A es).length) := by show List.length _ = _; rw [List.take_of_length_le (by rw [HL.out]; exact Nat.le_refl _)]
      rw [HLE.out]
      go_wp2
      go_ret
      exact ⟨rfl, rfl⟩

end Go.Proofs.YtpgoildfjkokiaaGreat
