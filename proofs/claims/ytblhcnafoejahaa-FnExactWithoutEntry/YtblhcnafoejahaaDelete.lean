/- The walk of slices.Delete at slots: one slot is taken out of a row of the call's own. -/
import Derived.Test.YtblhcnafoejahaaClone
import Derived.Lib.LazyBuf
import Derived.Deep.RegionLaw
namespace Go.Proofs.Ytblhcnafoejahaa
open Go.RowKit

theorem slice_len {A : Option Addr} {n m c : Nat} (h : n = m) : Value.slice A n c = .slice A m c := by rw [h]
theorem zero_slot (w : World) : (zeroValue 145).run Try.prog w = .ok (.agg #[.int .i64 0, .int .i64 0, .int .i64 0, .int .i64 0, .int .i64 0, .int .i64 0, .int .i64 0, .int .i64 0]) w := by kernel_rfl

/-- 'clear' of one slot: its eight cells are 0. -/
theorem run_clear_slot (w : World) (ty : TypeId) (b o c : Nat) (hc : ∀ j, j < 8 → (w.cell? ⟨b, o + j, none⟩).isSome = true) (hf : ∀ j, j < 8 → w.frozen? ⟨b, o + j, none⟩ = false) :
    (Builtin.clear_ #[91] ty #[.slice (some ⟨b, o, none⟩) 1 c]).run Try.prog w = .ok (.tuple #[]) (w.setCells b o (List.replicate 8 (.int .i64 0))) := by
  have hst := run_storeCells_cells (P := Try.prog) b o (List.replicate 8 (.int .i64 0)) 0 w (by simpa using hc) (by simpa using hf) (by intro v hv'; rw [List.eq_of_mem_replicate hv']; rfl)
  simp only [Nat.add_zero] at hst
  have hzc : (Builtin.zeroCells (Value.agg #[.int .i64 0, .int .i64 0, .int .i64 0, .int .i64 0, .int .i64 0, .int .i64 0, .int .i64 0, .int .i64 0]).cells 1).toList = List.replicate 8 (.int .i64 0) := by kernel_rfl
  simp only [List.replicate] at hst hzc ⊢
  simp [Builtin.clear_, run_underlying Try.underlying91, zero_slot, hzc, hst]

/-- What the row holds behind the append and the clear. -/
theorem deleted_slots {w : World} {base g n cap i : Nat} {ss : List SL} (ho : w.ownsRow base 145 8 (.slice (some ⟨g, 0, none⟩) n cap) n (ss.flatMap SL.cells)) (hi : i < n) :
    Slots ((w.drew.setCells g (0 + i * 8) ((ss.drop (i + 1)).flatMap SL.cells)).setCells g (0 + (n - 1) * 8) (List.replicate 8 (.int .i64 0))) (some ⟨g, 0, none⟩) (n - 1) (ss.eraseIdx i) := by
  obtain ⟨hl, h1⟩ := ho
  rw [slotCells_len] at hl
  rcases h1 with ⟨e, _⟩ | ⟨g', cap', cur, e, b1, b2, b3, b4, b5, b6⟩
  · simp at e
  injection e with e1 e2 e3
  injection e1 with e1; injection e1 with e1
  subst e1 e3
  have hr : w.drew.rowIs g 145 (cap * 8) (fun k => cur.getD k undef) := ⟨cur, b2, b5, fun k hk => by simp [Array.getD, show k < cur.size by omega]⟩
  have hr2 := Go.rowIs_setCells (List.replicate 8 (.int .i64 0)) (0 + (n - 1) * 8) _ _ (Go.rowIs_setCells ((ss.drop (i + 1)).flatMap SL.cells) (0 + i * 8) _ _ hr)
  have hln : ss.length = n := by omega
  refine ⟨by rw [List.length_eraseIdx, if_pos (by omega)]; omega, fun hp => ⟨g, 0, rfl, hr2.lt, fun k s hk j v hv => ?_⟩⟩
  have hj : j < 8 := by have := (List.getElem?_eq_some_iff.1 hv).1; simpa [SL.cells] using this
  have hkn : k < n - 1 := by have := (List.getElem?_eq_some_iff.1 hk).1; rw [List.length_eraseIdx, if_pos (by omega)] at this; omega
  rw [hr2.cell (i := 0 + k * 8 + j) (by omega), if_neg (by simp only [List.length_replicate]; omega)]
  rw [List.getElem?_eraseIdx] at hk
  have hdl : ((ss.drop (i + 1)).flatMap SL.cells).length = (n - (i + 1)) * 8 := by rw [slotCells_len, List.length_drop, hln]
  by_cases hki : k < i
  · rw [if_pos hki] at hk
    rw [if_neg (by omega)]
    have h8 : (cur.toList.take (n * 8))[k * 8 + j]? = some v := by rw [b6]; exact slotCells_at hk hv
    rw [List.getElem?_take, if_pos (by omega)] at h8
    have h9 : cur[k * 8 + j]? = some v := by simpa using h8
    simp only [Nat.zero_add, Array.getD_eq_getD_getElem?, h9, Option.getD_some]
  · rw [if_neg hki] at hk
    rw [if_pos (by omega)]
    have h8 : ((ss.drop (i + 1)).flatMap SL.cells)[(k - i) * 8 + j]? = some v := slotCells_at (by rw [List.getElem?_drop]; rw [show i + 1 + (k - i) = k + 1 by omega]; exact hk) hv
    rw [show 0 + k * 8 + j - (0 + i * 8) = (k - i) * 8 + j by omega, h8]; rfl

set_option maxRecDepth 100000 in
set_option maxHeartbeats 3200000 in
theorem delete_any (g n cap i base : Nat) (ss : List SL) (w : World) (ho : w.ownsRow base 145 8 (.slice (some ⟨g, 0, none⟩) n cap) n (ss.flatMap SL.cells)) (hi : i < n) (hn : n ≤ 6) :
    Calls Try.prog 129 #[.slice (some ⟨g, 0, none⟩) n cap, .int .i64 (i : Int), .int .i64 ((i : Int) + 1)] w fun e w' => e = .returned (.slice (some ⟨g, 0, none⟩) (n - 1) cap) ∧ Slots w' (some ⟨g, 0, none⟩) (n - 1) (ss.eraseIdx i) ∧ Below base w w' := by
  have HO := Lib.hid ho
  obtain ⟨i0, hi0, hz0, hz1, hz2⟩ := info_slot
  have hx := ho
  obtain ⟨hl, h1⟩ := hx
  rw [slotCells_len] at hl
  have hln : ss.length = n := by omega
  rcases h1 with ⟨e, _⟩ | ⟨g', cap', cur, e, b1, b2, b3, b4, b5, b6⟩
  · simp at e
  injection e with e1 e2 e3
  injection e1 with e1; injection e1 with e1
  subst e1 e3
  clear ho e2
  have hrow : Hid (w.drew.rowIs g 145 (cap * 8) (fun k => cur.getD k undef)) := ⟨cur, b2, b5, fun k hk => by simp [Array.getD, show k < cur.size by omega]⟩
  obtain ⟨news, hnews⟩ : ∃ news, news = (ss.drop (i + 1)).flatMap SL.cells := ⟨_, rfl⟩
  have hlen : news.length = (n - (i + 1)) * 8 := by rw [hnews, slotCells_len, List.length_drop, hln]
  obtain ⟨A, hA, hsrc⟩ : ∃ A : Addr, (if cap = i + 1 then some (⟨g, 0, none⟩ : Addr) else some ⟨g, (i + 1) * 8, none⟩) = some A ∧ Hid (∀ (t : Nat) (u : Value), news[t]? = some u → w.drew.cell? (A.add t) = some u) := by
    by_cases h : cap = i + 1
    · refine ⟨⟨g, 0, none⟩, by simp [h], fun t u hu => ?_⟩
      have h0 : news.length = 0 := by rw [hlen]; omega
      rw [List.length_eq_zero_iff.1 h0] at hu
      simp at hu
    · refine ⟨⟨g, (i + 1) * 8, none⟩, by simp [h], fun t u hu => ?_⟩
      rw [add_none]
      rw [hnews] at hu
      have ht : t < (n - (i + 1)) * 8 := by have := (List.getElem?_eq_some_iff.1 hu).1; rw [← hnews, hlen] at this; exact this
      obtain ⟨k, j, s, rfl, hk, hj⟩ := slotCells_inv hu
      rw [List.getElem?_drop] at hk
      have h8 : (cur.toList.take (n * 8))[(i + 1 + k) * 8 + j]? = some u := by rw [b6]; exact slotCells_at hk hj
      rw [List.getElem?_take, if_pos (by omega)] at h8
      have h9 : cur[(i + 1 + k) * 8 + j]? = some u := by simpa using h8
      rw [show (i + 1) * 8 + (k * 8 + j) = (i + 1 + k) * 8 + j by omega]
      exact (cell_of_row w.drew g _ cur _ (0, 0) b2).trans h9
  have s2 : Hid (∀ u ∈ news, u.oneCell' = true) := by
    intro u hu
    rw [hnews] at hu
    obtain ⟨x, _, hx⟩ := List.mem_flatMap.1 hu; simp only [SL.cells, List.mem_cons, List.not_mem_nil, or_false] at hx; rcases hx with rfl | rfl | rfl | rfl | rfl | rfl | rfl | rfl <;> rfl
  have s3 : Hid (∀ t, t < news.length → (w.drew.cell? ⟨g, 0 + i * 8 + t, none⟩).isSome = true ∧ w.drew.frozen? ⟨g, 0 + i * 8 + t, none⟩ = false) := by
    intro t ht
    rw [hlen] at ht
    exact ⟨by rw [hrow.out.cell (i := 0 + i * 8 + t) (by omega)]; rfl, hrow.out.frozen _⟩
  obtain ⟨W1, hW1⟩ : ∃ W1, W1 = w.drew.setCells g (0 + i * 8) news := ⟨_, rfl⟩
  have hr1 : Hid (W1.rowIs g 145 (cap * 8) (fun j => if 0 + i * 8 ≤ j ∧ j < 0 + i * 8 + news.length then news[j - (0 + i * 8)]?.getD default else cur.getD j undef)) := by show World.rowIs _ _ _ _ _; rw [hW1]; exact Go.rowIs_setCells news (0 + i * 8) _ _ hrow.out
  have hcl : ∀ ty, (Builtin.clear_ #[91] ty #[.slice (some ⟨g, (n - 1) * 8, none⟩) 1 (cap - (n - 1))]).run Try.prog W1 = .ok (.tuple #[]) (W1.setCells g ((n - 1) * 8) (List.replicate 8 (.int .i64 0))) :=
    fun ty => run_clear_slot W1 ty g ((n - 1) * 8) _ (fun j hj => by rw [hr1.out.cell (i := (n - 1) * 8 + j) (by omega)]; rfl) (fun j hj => hr1.out.frozen _)
  have hcl' : ∀ ty, (Builtin.clear_ #[91] ty #[.slice (some ⟨g, (i + (n - (i + 1))) * 8, none⟩) (n - (i + (n - (i + 1)))) (cap - (i + (n - (i + 1))))]).run Try.prog W1 = .ok (.tuple #[]) (W1.setCells g ((n - 1) * 8) (List.replicate 8 (.int .i64 0))) := by
    intro ty
    rw [show i + (n - (i + 1)) = n - 1 by omega, show n - (n - 1) = 1 by omega]
    exact hcl ty
  clear hcl
  have HSL : Hid (Slots (W1.setCells g ((n - 1) * 8) (List.replicate 8 (.int .i64 0))) (some ⟨g, 0, none⟩) (n - 1) (ss.eraseIdx i)) := by
    have := deleted_slots HO.out hi
    rw [Nat.zero_add ((n - 1) * 8), ← hnews, ← hW1] at this
    exact this
  have HBL : Hid (Below base w (W1.setCells g ((n - 1) * 8) (List.replicate 8 (.int .i64 0)))) := by
    show Below _ _ _
    rw [hW1]
    exact Go.below_setCells b1 _ _ _ (Go.below_setCells b1 _ _ _ (Below.refl _ _).drew)
  have IP := Lib.hid (And.intro hi0 (And.intro hz0 (And.intro hz1 hz2)))
  have HW := Lib.hid hW1
  have HNL := Lib.hid hlen
  have hic : i ≤ cap := by omega
  have hb0 : (0 : Int) ≤ (i : Int) + 1 := by omega
  have hb1 : (i : Int) + 1 ≤ (n : Int) := by omega
  have hjc : i + 1 ≤ cap := by omega
  have h63 : cap ≤ 9223372036854775807 := by unfold maxLen at b4; omega
  clear hW1 hrow hr1 hnews hlen b2 b5 b6 hi0 hz0 hz1 hz2 hl hln b4
  go_enter Try.func129, Try.ntmps129
  go_wp2_with fail
  go_region_law
    (first
      | (apply step_append_room (s := .tmp 22) (x := .tmp 25) (t := 91) (e := 145) (i := i0) (size := 8) (b := g) (off := 0) (n := i) (cap := cap) (ad := A) (m := n - (i + 1)) (c := cap - (i + 1)) (news := news)
         case hg => rfl
         case hop => rfl
         case h1 => exact Try.underlying91
         case h2 => exact IP.out.1
         case h4 => exact IP.out.2.2.1
         case hs => simp [Act.eval, Act.put]
         case hx => simp [Act.eval, Act.put]
         case hn => exact HNL.out
         case hc => exact hsrc.out
         case h1c => exact s2.out
         case hroom => omega
         case hspare => exact s3.out
         rw [← HW.out]))
  go_wp2
  go_ret
  exact ⟨ret_val (slice_len (n := i + (n - (i + 1))) (by omega)), HSL.out, HBL.out⟩

theorem delete_m (g m cap i base : Nat) (ss : List SL) (w : World) (ho : w.ownsRow base 145 8 (.slice (some ⟨g, 0, none⟩) (m + 1) cap) (m + 1) (ss.flatMap SL.cells)) (hi : i < m + 1) (hn : m + 1 ≤ 6) :
    Calls Try.prog 129 #[.slice (some ⟨g, 0, none⟩) (m + 1) cap, .int .i64 (i : Int), .int .i64 ((i : Int) + 1)] w fun e w' => e = .returned (.slice (some ⟨g, 0, none⟩) m cap) ∧ Slots w' (some ⟨g, 0, none⟩) m (ss.eraseIdx i) ∧ Below base w w' := by
  have h := delete_any g (m + 1) cap i base ss w ho hi hn
  simpa only [Nat.add_sub_cancel] using h

end Go.Proofs.Ytblhcnafoejahaa
