/- A row of entries that an answer owns: each row of numbers its own, no two the same; what append gives, what marks make of it, and what is held afterwards: markEntryS, heldEntryS, markNode, heldNode, markNodeResult, heldNodeResult, eqNodeResult. -/
import Derived.Test.YtfpmbkfikfdmkaaMarkNode
import Derived.Test.YtfpmbkfikfdmkaaOrders
import Derived.Deep.AppendLies
namespace Go.Proofs.Ytfpmbkfikfdmkaa
open Go.RowKit

def EV.cells (q : EV) : List Value := [.slice q.A1 q.n1 q.c1, .slice q.A2 q.n2 q.c2, .int .i64 q.ref, .int .i64 q.nsn]
theorem eCells_len : ∀ qs : List EV, (qs.flatMap EV.cells).length = qs.length * 4
  | [] => rfl
  | s :: ss => by simp only [List.flatMap_cons, List.length_append, eCells_len ss, List.length_cons]; simp [EV.cells]; omega
theorem eCells_at : ∀ {ss : List EV} {k j : Nat} {s : EV} {v : Value}, ss[k]? = some s → s.cells[j]? = some v → (ss.flatMap EV.cells)[k * 4 + j]? = some v
  | [], k, j, s, v, hs, _ => by simp at hs
  | t :: ss, 0, j, s, v, hs, hv => by
    simp at hs; subst hs
    have hj : j < 4 := by have := (List.getElem?_eq_some_iff.1 hv).1; simpa [EV.cells] using this
    rw [List.flatMap_cons, Nat.zero_mul, Nat.zero_add, List.getElem?_append_left (by simpa [EV.cells] using hj)]; exact hv
  | t :: ss, k + 1, j, s, v, hs, hv => by
    rw [List.flatMap_cons, List.getElem?_append_right (by simp [EV.cells]; omega)]
    have he : (k + 1) * 4 + j - t.cells.length = k * 4 + j := by simp [EV.cells]; omega
    rw [he]
    exact eCells_at (by simpa using hs) hv
theorem info_entry4 : ∃ i, Try.prog.info? 67 = some i ∧ i.zero = some (.agg #[.slice none 0 0, .slice none 0 0, .int .i64 0, .int .i64 0]) ∧ i.size = 4 ∧ i.bytes = 64 := by
  obtain ⟨i, hi, h⟩ := Option.map_eq_some_iff.1 info_entry
  simp only [Prod.mk.injEq] at h
  exact ⟨i, hi, h.1, h.2.1, h.2.2⟩

def blk : Option Addr → Nat
  | some a => a.block
  | none => 0
/-- The blocks of the entries' numbers. -/
def coords (qs : List EV) : List Nat := qs.flatMap fun q => [blk q.A1, blk q.A2]
/-- Each entry's numbers lie in two rows of the call's own. -/
def Coords (w : World) (base : Nat) (qs : List EV) : Prop := ∀ q ∈ qs, ∃ g1 g2, q.A1 = some ⟨g1, 0, none⟩ ∧ q.A2 = some ⟨g2, 0, none⟩ ∧ base ≤ g1 ∧ base ≤ g2 ∧ q.n1 ≤ 3 ∧ q.n2 ≤ 3 ∧ Own w g1 q.n1 q.x1 ∧ Own w g2 q.n2 q.x2
theorem Coords.kept {w w' : World} {base : Nat} {qs : List EV} (h : Coords w base qs) (hb : Below w.heap.size w w') : Coords w' base qs := by
  intro q hq
  obtain ⟨g1, g2, a1, a2, a3, a4, a5, a6, o1, o2⟩ := h q hq
  exact ⟨g1, g2, a1, a2, a3, a4, a5, a6, o1.kept hb, o2.kept hb⟩
theorem Coords.inside {w : World} {base : Nat} {qs : List EV} (h : Coords w base qs) : ∀ x ∈ coords qs, base ≤ x ∧ x < w.heap.size := by
  intro x hx
  obtain ⟨q, hq, hm⟩ := List.mem_flatMap.1 hx
  obtain ⟨g1, g2, a1, a2, a3, a4, a5, a6, o1, o2⟩ := h q hq
  rw [a1, a2] at hm
  simp only [blk, List.mem_cons, List.not_mem_nil, or_false] at hm
  have := o1.inside; have := o2.inside
  rcases hm with rfl | rfl <;> exact ⟨by omega, by omega⟩
theorem coords_mem {qs : List EV} {q : EV} (hq : q ∈ qs) : blk q.A1 ∈ coords qs ∧ blk q.A2 ∈ coords qs :=
  ⟨List.mem_flatMap.2 ⟨q, hq, by simp⟩, List.mem_flatMap.2 ⟨q, hq, by simp⟩⟩
/-- Kept where nothing but other blocks has turned. -/
theorem Coords.others {w w' : World} {base : Nat} {qs : List EV} (h : Coords w base qs) (hk : ∀ x ∈ coords qs, w'.heap[x]? = w.heap[x]?) : Coords w' base qs := by
  intro q hq
  obtain ⟨g1, g2, a1, a2, a3, a4, a5, a6, o1, o2⟩ := h q hq
  have hm := coords_mem hq
  rw [a1, a2] at hm
  exact ⟨g1, g2, a1, a2, a3, a4, a5, a6, ⟨o1.1, o1.2.of_block (hk _ hm.1)⟩, ⟨o2.1, o2.2.of_block (hk _ hm.2)⟩⟩

/-- The slice value '.slice A n c' owns the entries qs. -/
structure EntriesRes (w : World) (base : Nat) (A : Option Addr) (n c : Nat) (qs : List EV) : Prop where
  S : w.ownsRow base 67 4 (.slice A n c) n (qs.flatMap EV.cells)
  C : Coords w base qs
  D : (coords qs).Nodup
  E : ∀ g, (Value.slice A n c).ownBlock = some g → g ∉ coords qs

section
variable {w w' : World} {base n c : Nat} {A : Option Addr} {qs : List EV}
theorem EntriesRes.len (h : EntriesRes w base A n c qs) : qs.length = n := by have := h.S.1; rw [eCells_len] at this; omega
theorem EntriesRes.form (h : EntriesRes w base A n c qs) (hn : 0 < n) : ∃ g cur, A = some ⟨g, 0, none⟩ ∧ base ≤ g ∧ w.heap[g]? = some (.cells cur 67 (0, 0)) ∧ cur.size = c * 4 ∧ n ≤ c ∧ cur.toList.take (n * 4) = qs.flatMap EV.cells ∧ g ∉ coords qs ∧ c ≤ maxLen := by
  obtain ⟨hl, h1⟩ := h.S
  rcases h1 with ⟨_, h2⟩ | ⟨g, cap, cur, e, h2, h3, h4, h5, h6, h7⟩
  · omega
  · injection e with e1 e2 e3
    subst e1 e3
    exact ⟨g, cur, rfl, h2, h3, h6, h4, h7, h.E g rfl, h5⟩
theorem EntriesRes.entries (h : EntriesRes w base A n c qs) : Entries w A n qs := by
  refine ⟨h.len, fun hn => ?_, fun q hq => ?_⟩
  · obtain ⟨g, cur, rfl, h1, h2, h3, h4, h5, _⟩ := h.form hn
    have hg : g < w.heap.size := by
      rcases Nat.lt_or_ge g w.heap.size with h' | h'
      · exact h'
      · exact absurd (h2.symm.trans (Array.getElem?_eq_none h')) (by simp)
    refine ⟨g, 0, rfl, hg, fun k q hk => ?_⟩
    have hkn : k < n := by have := (List.getElem?_eq_some_iff.1 hk).1; rw [h.len] at this; exact this
    have cell : ∀ j v, q.cells[j]? = some v → w.cell? ⟨g, 0 + k * 4 + j, none⟩ = some v := by
      intro j v hv
      have hj : j < 4 := by have := (List.getElem?_eq_some_iff.1 hv).1; simpa [EV.cells] using this
      rw [Nat.zero_add, cell_of_row w g (k * 4 + j) cur 67 (0, 0) h2]
      have h8 : (cur.toList.take (n * 4))[k * 4 + j]? = some v := by rw [h5]; exact eCells_at hk hv
      rw [List.getElem?_take, if_pos (by omega)] at h8
      simpa using h8
    exact ⟨cell 0 _ rfl, cell 1 _ rfl, cell 2 _ rfl, cell 3 _ rfl⟩
  · obtain ⟨g1, g2, a1, a2, a3, a4, a5, a6, o1, o2⟩ := h.C q hq
    exact ⟨by rw [a1]; exact o1.ints (Nat.zero_le _), by rw [a2]; exact o2.ints (Nat.zero_le _), Nat.le_trans a5 (by decide), Nat.le_trans a6 (by decide)⟩
theorem EntriesRes.kept (h : EntriesRes w base A n c qs) (hb : Below w.heap.size w w') : EntriesRes w' base A n c qs := by
  refine ⟨?_, h.C.kept hb, h.D, h.E⟩
  obtain ⟨hl, h1⟩ := h.S
  refine ⟨hl, ?_⟩
  rcases h1 with h1 | ⟨g, cap, cur, h1, h2, h3, h4⟩
  · exact Or.inl h1
  · have hg : g < w.heap.size := by
      rcases Nat.lt_or_ge g w.heap.size with h' | h'
      · exact h'
      · exact absurd (h3.symm.trans (Array.getElem?_eq_none h')) (by simp)
    exact Or.inr ⟨g, cap, cur, h1, h2, (hb.block g hg).trans h3, h4⟩
/-- Kept where only blocks below its base turn. -/
theorem EntriesRes.turned {G : Nat → Prop} (h : EntriesRes w base A n c qs) (ht : Turned G w w') (hG : ∀ x, G x → x < base) : EntriesRes w' base A n c qs := by
  refine ⟨?_, h.C.others (fun x hx => ht.2.2 x (h.C.inside x hx).2 (fun hg => by have := hG x hg; have := (h.C.inside x hx).1; omega)), h.D, h.E⟩
  obtain ⟨hl, h1⟩ := h.S
  refine ⟨hl, ?_⟩
  rcases h1 with h1 | ⟨g, cap, cur, h1, h2, h3, h4⟩
  · exact Or.inl h1
  · have hg : g < w.heap.size := by
      rcases Nat.lt_or_ge g w.heap.size with h' | h'
      · exact h'
      · exact absurd (h3.symm.trans (Array.getElem?_eq_none h')) (by simp)
    exact Or.inr ⟨g, cap, cur, h1, h2, (ht.2.2 g hg (fun hg' => by have := hG g hg'; omega)).trans h3, h4⟩
end

/-- The marks that stand ahead of the i-th entry's. -/
def sumK (qs : List EV) : Int := (qs.map fun q => (q.n1 : Int) + q.n2 + 2).sum
theorem sumK_snoc (qs : List EV) (q : EV) : sumK (qs ++ [q]) = sumK qs + ((q.n1 : Int) + q.n2 + 2) := by simp [sumK]
theorem sumK_take {qs : List EV} {j : Nat} {q : EV} (h : qs[j]? = some q) : sumK (qs.take (j + 1)) = sumK (qs.take j) + ((q.n1 : Int) + q.n2 + 2) := by
  rw [List.take_add_one, h]; exact sumK_snoc _ _
/-- The entry bears the marks from k on. -/
def Marked (k : Int) (q : EV) : Prop := q.x1 = marks k q.n1 ∧ q.x2 = marks (k + q.n1) q.n2 ∧ q.ref = k + q.n1 + q.n2 ∧ q.nsn = k + q.n1 + q.n2 + 1
def MarkedTo (k0 : Int) (qs : List EV) (j : Nat) : Prop := ∀ (i : Nat) (q : EV), i < j → qs[i]? = some q → Marked (k0 + sumK (qs.take i)) q
/-- What does not turn by marks. -/
def EV.frame (q : EV) : Option Addr × Nat × Nat × Option Addr × Nat × Nat := (q.A1, q.n1, q.c1, q.A2, q.n2, q.c2)
theorem coords_frame {qs qs' : List EV} (h : qs'.map EV.frame = qs.map EV.frame) : coords qs' = coords qs := by
  have e : ∀ l : List EV, coords l = (l.map EV.frame).flatMap fun f => [blk f.1, blk f.2.2.2.1] := by
    intro l; induction l with
    | nil => rfl
    | cons a t ih => simp only [coords, List.flatMap_cons, List.map_cons, EV.frame] at ih ⊢; rw [ih]
  rw [e, e, h]
theorem small_sum {qs : List EV} (h : ∀ q ∈ qs, q.n1 ≤ 3 ∧ q.n2 ≤ 3) : 0 ≤ sumK qs ∧ sumK qs ≤ 8 * qs.length := by
  induction qs with
  | nil => simp [sumK]
  | cons a t ih =>
    have h1 := h a (by simp)
    have h2 := ih (fun q hq => h q (by simp [hq]))
    simp only [sumK, List.map_cons, List.sum_cons, List.length_cons] at h2 ⊢
    omega

set_option maxHeartbeats 1600000 in
theorem heldEntryS_any (k0 : Int) (n c : Nat) (A : Option Addr) (qs : List EV) (w : World) (hp : Entries w A n qs) (hm : MarkedTo k0 qs n) (h0 : 0 ≤ k0) (h1 : k0 ≤ 1048576) (hn : n ≤ 1048576) (hs : ∀ q ∈ qs, q.n1 ≤ 3 ∧ q.n2 ≤ 3) :
    Calls Try.prog 99 #[.slice A n c, .int .i64 k0] w fun e w' => e = .returned (.int .i64 (k0 + sumK qs)) ∧ Below w.heap.size w w' := by
  have HP := Lib.hid hp
  have HM := Lib.hid hm
  have HS := Lib.hid hs
  clear hp hm hs
  go_enter Try.func99, Try.ntmps99
  go_wp2
  go_loopw [1, 5] (fun kv i wr => ∃ (j : Nat) (m : Int), j ≤ n ∧ i = .int .i64 j ∧ kv = .int .i64 m ∧ Hid (m = k0 + sumK (qs.take j)) ∧ Hid (Below w.heap.size w wr)) (fun _ i _ => n - (intOf i).toNat)
  case atStart => exact ⟨0, k0, Nat.zero_le _, rfl, rfl, by show k0 = _; simp [sumK], Below.refl _ _⟩
  case round =>
    obtain ⟨j, m, hj, rfl, rfl, hmm, hB⟩ := hrel
    have hsum := small_sum (qs := qs.take j) (fun q hq => HS.out q (List.mem_of_mem_take hq))
    have hlen : (qs.take j).length ≤ j := List.length_take_le _ _
    have hm0 : 0 ≤ m := by have := hmm.out; omega
    have hm1 : m ≤ 10485760 := by have := hmm.out; omega
    by_cases hlt : j < n
    · obtain ⟨b, o, A1, n1, c1, A2, n2, c2, ref, nsn, x1, x2, rfl, hb, d0, d1, d2, d3, hx, i1, i2, m1, m2⟩ := HP.out.cellAt hlt
      obtain ⟨q1, q2, q3, q4⟩ := HM.out j _ hlt hx.out
      rw [← hmm.out] at q1 q2 q3 q4
      simp only at q1 q2 q3 q4
      obtain ⟨s1, s2⟩ := HS.out _ (List.mem_of_getElem? hx.out)
      simp only at s1 s2
      have hmm' : Hid (m + n1 + n2 + 1 + 1 = k0 + sumK (qs.take (j + 1))) := by
        show _ = _; rw [sumK_take hx.out, ← Int.add_assoc, ← hmm.out]; simp only; omega
      subst q1 q2 q3 q4
      have kb := Nat.lt_of_lt_of_le hb hB.out.size
      have e0 : wr.cell? ⟨b, o + j * 4, none⟩ = some (.slice A1 n1 c1) := (hB.out.cell (p := ⟨b, o + j * 4, none⟩) hb).trans d0
      have E1 := Lib.hid ((hB.out.cell (p := ⟨b, o + j * 4 + 1, none⟩) hb).trans d1)
      have E2 := Lib.hid ((hB.out.cell (p := ⟨b, o + j * 4 + 2, none⟩) hb).trans d2)
      have E3 := Lib.hid ((hB.out.cell (p := ⟨b, o + j * 4 + 3, none⟩) hb).trans d3)
      clear d0 d1 d2 d3 hx hsum hlen
      have p1 : ¬ (m + n1 < 0) := by omega
      have p2 : ¬ (m + n1 + n2 < 0) := by omega
      have z1 : (m + n1 + n2 != m + n1 + n2) = false := by simp
      have z2 : (m + n1 + n2 + 1 != m + n1 + n2 + 1) = false := by simp
      go_wp2_with fail
      refine (heldInt64S_any m n1 c1 _ A1 _ (i1.out.kept hB.out) hm0 (by omega) (by omega)).mono ?_
      rintro e W1 ⟨rfl, b1⟩
      have f1 : W1.cell? ⟨b, o + j * 4 + 1, none⟩ = some (.slice A2 n2 c2) := (b1.cell (p := ⟨b, o + j * 4 + 1, none⟩) kb).trans E1.out
      replace E2 := Lib.hid ((b1.cell (p := ⟨b, o + j * 4 + 2, none⟩) kb).trans E2.out)
      replace E3 := Lib.hid ((b1.cell (p := ⟨b, o + j * 4 + 3, none⟩) kb).trans E3.out)
      replace kb := Nat.lt_of_lt_of_le kb b1.size
      replace hB := Lib.hid (hB.out.trans (b1.mono hB.out.size))
      clear b1 e0
      go_wp2_with fail
      refine (heldInt64S_any (m + n1) n2 c2 _ A2 _ (i2.out.kept hB.out) (by omega) (by omega) (by omega)).mono ?_
      rintro e W2 ⟨rfl, b2⟩
      have f2 : W2.cell? ⟨b, o + j * 4 + 2, none⟩ = some (.int .i64 (m + n1 + n2)) := (b2.cell (p := ⟨b, o + j * 4 + 2, none⟩) kb).trans E2.out
      have f3 : W2.cell? ⟨b, o + j * 4 + 3, none⟩ = some (.int .i64 (m + n1 + n2 + 1)) := (b2.cell (p := ⟨b, o + j * 4 + 3, none⟩) kb).trans E3.out
      replace hB := Lib.hid (hB.out.trans (b2.mono hB.out.size))
      clear b2 f1 E1 E2 E3 i1 i2
      go_wp2
      go_roundw
      case rel => exact ⟨j + 1, _, by omega, by go_num, rfl, hmm', hB⟩
      case measure => simp [intOf]; omega
    · have hq : Hid (m = k0 + sumK qs) := by
        have := hmm.out
        rwa [List.take_of_length_le (by have := HP.out.1; omega)] at this
      go_wp2
      go_ret
      exact ⟨ret_i64 hq.out, hB.out⟩

end Go.Proofs.Ytfpmbkfikfdmkaa
