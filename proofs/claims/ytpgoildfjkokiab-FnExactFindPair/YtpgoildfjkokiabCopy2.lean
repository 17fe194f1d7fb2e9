/- The walk of spec.l1Ints: a copy of a list that is not empty, in new memory. -/
import Derived.Test.YtpgoildfjkokiabCorners
import Derived.Deep.AppendLies
namespace Go.Proofs.Ytpgoildfjkokiab
open Go.RowKit

theorem info_parts' : ∃ i, Try.prog.info? 2 = some i ∧ i.zero = some (.int .i64 0) ∧ i.size = 1 ∧ i.bytes = 8 := by
  obtain ⟨i, hi, h⟩ := Option.map_eq_some_iff.1 info_i64
  simp only [Prod.mk.injEq] at h
  exact ⟨i, hi, h.1, h.2.1, h.2.2⟩
theorem below_grown' {B : Nat} {a w w' : World} {row : Option Nat} (h : Below B a w) (hg : w.grownBy w' row) (hrow : ∀ r, row = some r → B ≤ r) (hs : B ≤ w.heap.size) : Below B a w' :=
  ⟨hg.os.trans h.os, hg.tape.trans h.tape, hg.output.trans h.output, Nat.le_trans h.size hg.size, fun g hgB => (hg.block g (Nat.lt_of_lt_of_le hgB hs) (fun e => by have := hrow g e.symm; omega)).trans (h.block g hgB)⟩
theorem ints_of_owns' {w : World} {base n : Nat} {v : Value} {xs : List Int} (h : w.ownsRow base 2 1 v n (xs.map (Value.int .i64))) : ∃ A c, v = .slice A n c ∧ Ints w base A n xs := by
  obtain ⟨hl, h⟩ := h
  simp only [List.length_map, Nat.mul_one] at hl
  rcases h with ⟨rfl, rfl⟩ | ⟨g, cap, cur, rfl, h2, h3, h4, h5, h6, h7⟩
  · exact ⟨none, 0, rfl, hl, fun h => absurd h (Nat.lt_irrefl 0)⟩
  · refine ⟨_, _, rfl, hl, fun _ => ⟨g, 0, rfl, h2, ?_, fun k x hk => ?_⟩⟩
    · rcases Nat.lt_or_ge g w.heap.size with h' | h'
      · exact h'
      · exact absurd (h3.symm.trans (Array.getElem?_eq_none h')) (by simp)
    · rw [Nat.zero_add, cell_of_row w g k cur 2 (0, 0) h3]
      have hk2 : k < n := by rw [← hl]; exact (List.getElem?_eq_some_iff.1 hk).1
      have h8 : (cur.toList.take (n * 1))[k]? = some (.int .i64 x) := by rw [h7]; simp [hk]
      rw [List.getElem?_take, if_pos (by omega)] at h8
      simpa using h8

set_option maxHeartbeats 1600000 in
theorem l1Ints_own (n c lo : Nat) (A : Option Addr) (xs : List Int) (w : World) (hx : Ints w lo A n xs) (hn : 0 < n) (hn3 : n ≤ 3) :
    Calls Try.prog 41 #[.slice A n c] w fun e w' => ∃ g cap, e = .returned (.slice (some ⟨g, 0, none⟩) n cap) ∧ w'.ownsRow w.heap.size 2 1 (.slice (some ⟨g, 0, none⟩) n cap) n (xs.map (Value.int .i64)) ∧ Ints w' w.heap.size (some ⟨g, 0, none⟩) n xs ∧ Below w.heap.size w w' := by
  obtain ⟨hl, hr⟩ := hx
  obtain ⟨b, o, rfl, _, hb, hc⟩ := hr hn
  obtain ⟨i0, hi0, hz0, hz1, hz2⟩ := info_parts'
  have B := Lib.hid (below_alloc w (.cells #[] 2))
  have hown : Hid ((w.alloc (.cells #[] 2)).ownsRow w.heap.size 2 1 (.slice (some ⟨w.heap.size, 0, none⟩) 0 0) 0 []) := ⟨rfl, Or.inr ⟨w.heap.size, 0, #[], rfl, Nat.le_refl _, heap_alloc_new w _, Nat.le_refl _, Nat.zero_le _, rfl, rfl⟩⟩
  have hnews : Hid (∀ (j : Nat) (u : Value), (xs.map (Value.int .i64))[j]? = some u → (w.alloc (.cells #[] 2)).cell? ((⟨b, o, none⟩ : Addr).add j) = some u) := by
    intro j u hj
    rw [add_none, B.out.cell (p := ⟨b, o + j, none⟩) hb]
    rw [List.getElem?_map] at hj
    obtain ⟨x, hx, rfl⟩ := Option.map_eq_some_iff.1 hj
    exact hc j x hx
  have HL := Lib.hid hl
  have IP := Lib.hid (And.intro hi0 (And.intro hz0 (And.intro hz1 hz2)))
  clear hr hc hl hi0 hz0 hz1 hz2
  go_enter Try.func41, Try.ntmps41
  go_wp2_with (with_reducible refine wpList_append_lies _ rfl (.tmp 3) (.tmp 4) 24 rfl w.heap.size 2 i0 (.int .i64 0) 1 8 Try.underlying24 IP.out.1 IP.out.2.1 IP.out.2.2.1 IP.out.2.2.2 rfl (by omega) (.slice (some ⟨w.heap.size, 0, none⟩) 0 0) 0 [] rfl hown.out ⟨b, o, none⟩ n c (xs.map (Value.int .i64)) rfl ?q1 hnews.out ?q2 hn ?q3 ?q4 ?q5 (w.heap.size + 1) ?q6 ?_)
  case q1 => simp [HL.out]
  case q2 => intro u hu; obtain ⟨x, _, rfl⟩ := List.mem_map.1 hu; rfl
  case q3 => unfold maxLen; omega
  case q4 => omega
  case q5 => simp
  case q6 => simp
  intro g cap w' ho hg hat hlt
  have HO := Lib.hid ho
  have HB := Lib.hid (below_grown' B.out hg (fun r e => by simp [Value.ownBlock] at e; omega) B.out.size)
  clear ho hg hat
  go_wp2
  go_ret
  obtain ⟨A, c', e, hi⟩ := ints_of_owns' (xs := xs) (n := n) (by simpa using HO.out)
  injection e with e1 e2 e3
  subst e1
  exact ⟨g, cap, by simp, by simpa using HO.out, hi, HB.out⟩
theorem l1Ints_any (n c lo : Nat) (A : Option Addr) (xs : List Int) (w : World) (hx : Ints w lo A n xs) (hn : 0 < n) (hn3 : n ≤ 3) :
    Calls Try.prog 41 #[.slice A n c] w fun e w' => ∃ g cap, e = .returned (.slice (some ⟨g, 0, none⟩) n cap) ∧ Ints w' w.heap.size (some ⟨g, 0, none⟩) n xs ∧ Below w.heap.size w w' :=
  (l1Ints_own n c lo A xs w hx hn hn3).mono fun e w' ⟨g, cap, h1, _, h3, h4⟩ => ⟨g, cap, h1, h3, h4⟩
/-- A row of one's own, read again behind what lets it be. -/
theorem owns_kept2 {w w' : World} {base : Nat} {e : TypeId} {size : Nat} {v : Value} {n : Nat} {xs : List Value} (h : w.ownsRow base e size v n xs) (hb : Below w.heap.size w w') : w'.ownsRow base e size v n xs := by
  obtain ⟨hl, h1⟩ := h
  refine ⟨hl, ?_⟩
  rcases h1 with h1 | ⟨g, cap, cur, rfl, h2, h3, h4⟩
  · exact Or.inl h1
  · have hg : g < w.heap.size := by
      rcases Nat.lt_or_ge g w.heap.size with h' | h'
      · exact h'
      · exact absurd (h3.symm.trans (Array.getElem?_eq_none h')) (by simp)
    exact Or.inr ⟨g, cap, cur, rfl, h2, (hb.block g hg).trans h3, h4⟩
theorem owns_far2 {w : World} {base : Nat} {e : TypeId} {size : Nat} {v : Value} {n : Nat} {xs : List Value} (h : w.ownsRow base e size v n xs) {a : Addr} (ha : a.block < base) (u : Value) : (w.setCell a u).ownsRow base e size v n xs := by
  obtain ⟨hl, h1⟩ := h
  refine ⟨hl, ?_⟩
  rcases h1 with h1 | ⟨g, cap, cur, rfl, h2, h3, h4⟩
  · exact Or.inl h1
  · exact Or.inr ⟨g, cap, cur, rfl, h2, (heap_setCell_other w a g u (by omega)).trans h3, h4⟩
theorem owns_base2 {w : World} {base g n cap : Nat} {e : TypeId} {size : Nat} {xs : List Value} (h : w.ownsRow base e size (.slice (some ⟨g, 0, none⟩) n cap) n xs) : base ≤ g ∧ g < w.heap.size := by
  obtain ⟨hl, h1⟩ := h
  rcases h1 with ⟨h1, _⟩ | ⟨q, cap', cur, e1, h2, h3, h4⟩
  · injection h1 with h1; cases h1
  · injection e1 with e1; injection e1 with e1; injection e1 with e1; subst e1
    refine ⟨h2, ?_⟩
    rcases Nat.lt_or_ge g w.heap.size with h' | h'
    · exact h'
    · exact absurd (h3.symm.trans (Array.getElem?_eq_none h')) (by simp)
theorem owns_low2 {w : World} {base base' : Nat} {e : TypeId} {size : Nat} {v : Value} {n : Nat} {xs : List Value} (h : w.ownsRow base e size v n xs) (hb : base' ≤ base) : w.ownsRow base' e size v n xs := by
  obtain ⟨hl, h1⟩ := h
  refine ⟨hl, ?_⟩
  rcases h1 with h1 | ⟨g, cap, cur, rfl, h2, h3⟩
  · exact Or.inl h1
  · exact Or.inr ⟨g, cap, cur, rfl, by omega, h3⟩

theorem Ints.far2 {w : World} {lo n : Nat} {A : Option Addr} {xs : List Int} (h : Ints w lo A n xs) {a : Addr} (ha : a.block < lo) (v : Value) : Ints (w.setCell a v) lo A n xs := by
  obtain ⟨hl, hr⟩ := h
  refine ⟨hl, fun hn => ?_⟩
  obtain ⟨b, o, e, h1, h2, h3⟩ := hr hn
  refine ⟨b, o, e, h1, by simpa [World.setCell] using h2, fun k x hx => ?_⟩
  rw [World.cell?_of_block (w := w) (a := ⟨b, o + k, none⟩) (heap_setCell_other w a b v (by omega))]
  exact h3 k x hx

set_option maxRecDepth 100000 in
set_option maxHeartbeats 3200000 in
theorem l1Copy_own (b f n c1 c2 lo1 lo2 : Nat) (A1 A2 : Option Addr) (x1 x2 : List Int) (w : World) (hb : b < w.heap.size) (k1 : w.cell? ⟨b, f, none⟩ = some (.slice A1 n c1)) (k2 : w.cell? ⟨b, f + 1, none⟩ = some (.slice A2 n c2)) (h1 : Ints w lo1 A1 n x1) (h2 : Ints w lo2 A2 n x2) (hn : 0 < n) (hn3 : n ≤ 3) :
    Calls Try.prog 28 #[.pointer (some ⟨b, f, none⟩)] w fun e w' => ∃ g cap g' cap', e = .returned (.agg #[.slice (some ⟨g, 0, none⟩) n cap, .slice (some ⟨g', 0, none⟩) n cap']) ∧ w'.ownsRow w.heap.size 2 1 (.slice (some ⟨g, 0, none⟩) n cap) n (x1.map (Value.int .i64)) ∧ w'.ownsRow w.heap.size 2 1 (.slice (some ⟨g', 0, none⟩) n cap') n (x2.map (Value.int .i64)) ∧ g ≠ g' ∧ Below w.heap.size w w' := by
  have B := Lib.hid (below_alloc w (.cells #[.slice none 0 0, .slice none 0 0] 26))
  have L_r := Lib.hid (Lies.new w 26 #[.slice none 0 0, .slice none 0 0])
  have I_1 := Lib.hid h1
  have I_2 := Lib.hid h2
  clear h1 h2
  have k_0 : (w.alloc (.cells #[.slice none 0 0, .slice none 0 0] 26)).cell? ⟨b, f, none⟩ = some (.slice A1 n c1) ∧ (w.alloc (.cells #[.slice none 0 0, .slice none 0 0] 26)).cell? ⟨b, f + 1, none⟩ = some (.slice A2 n c2) := ⟨(B.out.cell (p := ⟨b, f, none⟩) hb).trans k1, (B.out.cell (p := ⟨b, f + 1, none⟩) hb).trans k2⟩
  clear k1 k2
  have hbr : b ≠ w.heap.size := by omega
  go_enter Try.func28, Try.ntmps28
  go_wp2
  generalize hW : w.alloc (.cells #[.slice none 0 0, .slice none 0 0] 26) = W0 at *
  clear hW
  have hb0 : b < W0.heap.size := Nat.lt_of_lt_of_le hb B.out.size
  go_region_held3 (fun w' => w'.cell? ⟨b, f, none⟩ = some (.slice A1 n c1) ∧ w'.cell? ⟨b, f + 1, none⟩ = some (.slice A2 n c2))
    (first | (simp [go_sem, k_0]; done) | with_reducible exact k_1 | with_reducible exact k_2 | (simp [go_sem, k_2, hbr, Ne.symm hbr]; done))
    (first
      | (go_at_call_of 41 (Value.slice A1 n c1); refine (l1Ints_own _ _ _ _ x1 _ (I_1.out.kept B.out.drew) hn hn3).mono ?_
         rintro e W1 ⟨g, cap, rfl, j1, _, b1d⟩
         have b1 := below_drawn b1d
         have k_1 : W1.cell? ⟨b, f, none⟩ = some (.slice A1 n c1) ∧ W1.cell? ⟨b, f + 1, none⟩ = some (.slice A2 n c2) := ⟨(b1.cell (p := ⟨b, f, none⟩) hb0).trans k_0.1, (b1.cell (p := ⟨b, f + 1, none⟩) hb0).trans k_0.2⟩
         have hb1 : b < W1.heap.size := Nat.lt_of_lt_of_le hb0 b1.size
         have j1' : W1.ownsRow W0.heap.size 2 1 (.slice (some ⟨g, 0, none⟩) n cap) n (x1.map (Value.int .i64)) := j1
         clear b1d j1)
      | (go_at_call_of 41 (Value.slice A2 n c2); refine (l1Ints_own _ _ _ _ x2 _ (I_2.out.kept (B.out.trans (b1.mono B.out.size))) hn hn3).mono ?_
         rintro e W2 ⟨g', cap', rfl, j2, _, b2⟩
         have k_2 : W2.cell? ⟨b, f, none⟩ = some (.slice A1 n c1) ∧ W2.cell? ⟨b, f + 1, none⟩ = some (.slice A2 n c2) := ⟨(b2.cell (p := ⟨b, f, none⟩) hb1).trans k_1.1, (b2.cell (p := ⟨b, f + 1, none⟩) hb1).trans k_1.2⟩
         have l2 : Lies W2 w.heap.size 26 #[.slice none 0 0, .slice none 0 0] := (L_r.out.kept b1 L_r.out.inside).kept b2 (L_r.out.kept b1 L_r.out.inside).inside
         have c_r0 : W2.cell? ⟨w.heap.size, 0, none⟩ = some (.slice none 0 0) := l2.cell 0
         have c_r1 : W2.cell? ⟨w.heap.size, 1, none⟩ = some (.slice none 0 0) := l2.cell 1
         have f_r0 : W2.frozen? ⟨w.heap.size, 0, none⟩ = false := l2.thawed 0
         have f_r1 : W2.frozen? ⟨w.heap.size, 1, none⟩ = false := l2.thawed 1
         clear l2))
  have hs0 : w.heap.size < W0.heap.size := L_r.out.inside
  have hs1 := b1.size
  have hne : g ≠ g' := by have h1 := (owns_base2 j1').2; have h2 := (owns_base2 j2).1; omega
  have J_1 := Lib.hid (owns_kept2 j1' b2)
  have J_2 := Lib.hid j2
  have B2 := Lib.hid ((B.out.trans (b1.mono B.out.size)).trans (b2.mono (Nat.le_trans B.out.size hs1)))
  clear j1' j2 b1 b2 k_0 k_1 k_2
  go_wp2
  refine bodyPost_ret (v := .agg #[.slice (some ⟨g, 0, none⟩) n cap, .slice (some ⟨g', 0, none⟩) n cap']) (by simp [results, Try.results28, go_sem, c_r0, c_r1]) rfl ⟨g, cap, g', cap', rfl, ?_, ?_, hne, ?_⟩
  · exact owns_low2 (owns_far2 (owns_far2 J_1.out (by show w.heap.size < _; omega) _) (by show w.heap.size < _; omega) _) (by omega)
  · exact owns_low2 (owns_far2 (owns_far2 J_2.out (by show w.heap.size < _; omega) _) (by show w.heap.size < _; omega) _) (by omega)
  · exact (B2.out.setCell (Nat.le_refl _) _).setCell (Nat.le_refl _) _
theorem l1Copy_any (b f n c1 c2 lo1 lo2 : Nat) (A1 A2 : Option Addr) (x1 x2 : List Int) (w : World) (hb : b < w.heap.size) (k1 : w.cell? ⟨b, f, none⟩ = some (.slice A1 n c1)) (k2 : w.cell? ⟨b, f + 1, none⟩ = some (.slice A2 n c2)) (h1 : Ints w lo1 A1 n x1) (h2 : Ints w lo2 A2 n x2) (hn : 0 < n) (hn3 : n ≤ 3) :
    Calls Try.prog 28 #[.pointer (some ⟨b, f, none⟩)] w fun e w' => ∃ g cap g' cap', e = .returned (.agg #[.slice (some ⟨g, 0, none⟩) n cap, .slice (some ⟨g', 0, none⟩) n cap']) ∧ Ints w' w.heap.size (some ⟨g, 0, none⟩) n x1 ∧ Ints w' w.heap.size (some ⟨g', 0, none⟩) n x2 ∧ Below w.heap.size w w' := by
  refine (l1Copy_own b f n c1 c2 lo1 lo2 A1 A2 x1 x2 w hb k1 k2 h1 h2 hn hn3).mono fun e w' ⟨g, cap, g', cap', e1, o1, o2, _, e4⟩ => ?_
  obtain ⟨a1, d1, q1, i1⟩ := ints_of_owns' o1
  obtain ⟨a2, d2, q2, i2⟩ := ints_of_owns' o2
  injection q1 with q1; injection q2 with q2; subst q1 q2
  exact ⟨g, cap, g', cap', e1, i1, i2, e4⟩

end Go.Proofs.Ytpgoildfjkokiab
