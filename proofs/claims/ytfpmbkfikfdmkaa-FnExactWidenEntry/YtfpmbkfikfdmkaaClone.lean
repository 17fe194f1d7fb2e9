/- The walk of slices.Clone at slots: of a row that is not empty. -/
import Derived.Test.YtfpmbkfikfdmkaaHolder
import Derived.Lib.SliceRun
namespace Go.Proofs.Ytfpmbkfikfdmkaa
open Go.RowKit

theorem slotCells_inv : ∀ {ss : List SL} {j : Nat} {u : Value}, (ss.flatMap SL.cells)[j]? = some u → ∃ k i s, j = k * 8 + i ∧ ss[k]? = some s ∧ s.cells[i]? = some u
  | [], j, u, h => by simp at h
  | t :: ss, j, u, h => by
    have hl : t.cells.length = 8 := rfl
    rw [List.flatMap_cons] at h
    rcases Nat.lt_or_ge j 8 with hj | hj
    · rw [List.getElem?_append_left (by rw [hl]; exact hj)] at h
      exact ⟨0, j, t, by omega, rfl, h⟩
    · rw [List.getElem?_append_right (by rw [hl]; exact hj), hl] at h
      obtain ⟨k, i, s, e, hk, hi⟩ := slotCells_inv h
      exact ⟨k + 1, i, s, by omega, by simpa using hk, hi⟩

set_option maxRecDepth 100000 in
set_option maxHeartbeats 1600000 in
theorem clone_any (n c : Nat) (A : Option Addr) (ss : List SL) (w : World) (hp : Slots w A n ss) (h0 : 0 < n) (hn : n ≤ 6) :
    Calls Try.prog 128 #[.slice A n c] w fun e w' => ∃ g cap, e = .returned (.slice (some ⟨g, 0, none⟩) n cap) ∧ w'.ownsRow w.heap.size 136 8 (.slice (some ⟨g, 0, none⟩) n cap) n (ss.flatMap SL.cells) ∧ Below w.heap.size w w' := by
  obtain ⟨hl, hr⟩ := hp
  obtain ⟨b, o, rfl, hb, hc⟩ := hr h0
  obtain ⟨i0, hi0, hz0, hz1, hz2⟩ := info_slot
  have B := Lib.hid (below_alloc w (.cells #[] 136))
  have hown : Hid ((w.alloc (.cells #[] 136)).ownsRow w.heap.size 136 8 (.slice (some ⟨w.heap.size, 0, none⟩) 0 0) 0 []) := ⟨rfl, Or.inr ⟨w.heap.size, 0, #[], rfl, Nat.le_refl _, heap_alloc_new w _, Nat.le_refl _, Nat.zero_le _, rfl, rfl⟩⟩
  have hnews : Hid (∀ (j : Nat) (u : Value), (ss.flatMap SL.cells)[j]? = some u → (w.alloc (.cells #[] 136)).cell? ((⟨b, o, none⟩ : Addr).add j) = some u) := by
    intro j u hj
    rw [add_none, B.out.cell (p := ⟨b, o + j, none⟩) hb]
    obtain ⟨k, i, t, rfl, hk, hi⟩ := slotCells_inv hj
    rw [← Nat.add_assoc]
    exact hc k t hk i u hi
  have HL := Lib.hid hl
  have IP := Lib.hid (And.intro hi0 (And.intro hz0 (And.intro hz1 hz2)))
  clear hr hc hl hi0 hz0 hz1 hz2
  have heq := fun w => Lib.run_eql_slice_nil (P := Try.prog) w 114 136 (some ⟨b, o, none⟩) n c 0 0 Try.underlying114
  simp only [Option.isNone_some] at heq
  go_enter Try.func128, Try.ntmps128
  go_wp2_with (with_reducible refine wpList_append_lies _ rfl (.tmp 5) (.tmp 6) 114 rfl w.heap.size 136 i0 (.agg #[.int .i64 0, .int .i64 0, .int .i64 0, .int .i64 0, .int .i64 0, .int .i64 0, .int .i64 0, .int .i64 0]) 8 64 Try.underlying114 IP.out.1 IP.out.2.1 IP.out.2.2.1 IP.out.2.2.2 rfl (by omega) (.slice (some ⟨w.heap.size, 0, none⟩) 0 0) 0 [] rfl hown.out ⟨b, o, none⟩ n c (ss.flatMap SL.cells) rfl ?q1 hnews.out ?q2 h0 ?q3 ?q4 ?q5 (w.heap.size + 1) ?q6 ?_)
  case q1 => rw [slotCells_len, HL.out]
  case q2 => intro u hu; obtain ⟨x, _, hx⟩ := List.mem_flatMap.1 hu; simp only [SL.cells, List.mem_cons, List.not_mem_nil, or_false] at hx; rcases hx with rfl | rfl | rfl | rfl | rfl | rfl | rfl | rfl <;> rfl
  case q3 => unfold maxLen; omega
  case q4 => omega
  case q5 => simp
  case q6 => simp
  intro g cap w' ho hg hat hlt
  have HO : Hid (w'.ownsRow w.heap.size 136 8 (.slice (some ⟨g, 0, none⟩) n cap) n (ss.flatMap SL.cells)) := by show World.ownsRow _ _ _ _ _ _ _; simpa using ho
  have HB := Lib.hid (below_grown2 B.out hg (fun r e => by simp [Value.ownBlock] at e; omega) B.out.size)
  clear ho hg hat
  go_wp2
  go_ret
  exact ⟨g, cap, by simp, HO.out, HB.out⟩

end Go.Proofs.Ytfpmbkfikfdmkaa
