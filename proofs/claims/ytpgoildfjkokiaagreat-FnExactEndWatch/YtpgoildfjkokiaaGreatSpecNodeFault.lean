/- The walks of spec.l3Entries and spec.l3Copy: entries are copied, each with rows of its own. -/
import Derived.Test.YtpgoildfjkokiaaGreatSpecNode
import Derived.Test.YtpgoildfjkokiaaGreatNodeRes
import Derived.Test.YtpgoildfjkokiaaGreatHolder
import Derived.Test.YtpgoildfjkokiaaGreatBoxMath
import Derived.Test.YtpgoildfjkokiaaGreatCopy2
namespace Go.Proofs.YtpgoildfjkokiaaGreat
open Go.RowKit

theorem Ints.formE {w : World} {lo n : Nat} {A : Option Addr} {xs : List Int} (h : Ints w lo A n xs) (hn : 0 < n) : ∃ b o, A = some ⟨b, o, none⟩ ∧ lo ≤ b ∧ b < w.heap.size := by
  obtain ⟨b, o, e, h1, h2, _⟩ := h.2 hn
  exact ⟨b, o, e, h1, h2⟩
theorem Ints.block {w w' : World} {lo n b o : Nat} {xs : List Int} (h : Ints w lo (some ⟨b, o, none⟩) n xs) (hs : w.heap.size ≤ w'.heap.size) (hb : w'.heap[b]? = w.heap[b]?) : Ints w' lo (some ⟨b, o, none⟩) n xs := by
  obtain ⟨hl, hr⟩ := h
  refine ⟨hl, fun hn => ?_⟩
  obtain ⟨b', o', e, h1, h2, h3⟩ := hr hn
  injection e with e; injection e with e1 e2; subst e1 e2
  refine ⟨b, o, rfl, h1, Nat.lt_of_lt_of_le h2 hs, fun k x hx => ?_⟩
  rw [World.cell?_of_block (w := w) (a := ⟨b, o + k, none⟩) hb]
  exact h3 k x hx

/-- Each entry's rows are read, and lie in new blocks that are none of the row's own. -/
def ReadE (w : World) (base : Nat) (v : Value) (qs : List EV) : Prop := ∀ q ∈ qs, ∃ g1 g2, q.A1 = some ⟨g1, 0, none⟩ ∧ q.A2 = some ⟨g2, 0, none⟩ ∧ base ≤ g1 ∧ base ≤ g2 ∧ g1 < w.heap.size ∧ g2 < w.heap.size ∧ v.ownBlock ≠ some g1 ∧ v.ownBlock ≠ some g2 ∧ q.n1 ≤ maxLen ∧ q.n2 ≤ maxLen ∧ Ints w 0 q.A1 q.n1 q.x1 ∧ Ints w 0 q.A2 q.n2 q.x2
theorem ReadE.kept {w w' : World} {base : Nat} {v : Value} {qs : List EV} (h : ReadE w base v qs) (hb : Below w.heap.size w w') : ReadE w' base v qs := by
  intro q hq
  obtain ⟨g1, g2, a1, a2, a3, a4, a5, a6, a7, a8, a9, a10, i1, i2⟩ := h q hq
  have := hb.size
  exact ⟨g1, g2, a1, a2, a3, a4, by omega, by omega, a7, a8, a9, a10, i1.kept hb, i2.kept hb⟩

theorem ReadE.far {w : World} {base : Nat} {v : Value} {qs : List EV} (h : ReadE w base v qs) {a : Addr} (hne : ∀ q ∈ qs, blk q.A1 ≠ a.block ∧ blk q.A2 ≠ a.block) (u : Value) : ReadE (w.setCell a u) base v qs := by
  intro q hq
  obtain ⟨g1, g2, a1, a2, a3, a4, a5, a6, a7, a8, a9, a10, i1, i2⟩ := h q hq
  obtain ⟨n1, n2⟩ := hne q hq
  rw [a1] at n1 i1; rw [a2] at n2 i2
  refine ⟨g1, g2, a1, a2, a3, a4, by rw [size_of_setCell]; exact a5, by rw [size_of_setCell]; exact a6, a7, a8, a9, a10, ?_, ?_⟩
  · rw [a1]; exact i1.block (Nat.le_of_eq (size_of_setCell _ _ _).symm) (heap_setCell_other w a g1 u n1)
  · rw [a2]; exact i2.block (Nat.le_of_eq (size_of_setCell _ _ _).symm) (heap_setCell_other w a g2 u n2)
theorem ReadE.grown {w w' : World} {base gg n cap : Nat} {v : Value} {qs : List EV} (h : ReadE w base v qs) (hg : w.grownBy w' v.ownBlock) (hat : v.ownBlock = some gg ∨ w.heap.size ≤ gg) : ReadE w' base (.slice (some ⟨gg, 0, none⟩) n cap) qs := by
  intro q hq
  obtain ⟨g1, g2, a1, a2, a3, a4, a5, a6, a7, a8, a9, a10, i1, i2⟩ := h q hq
  rw [a1] at i1; rw [a2] at i2
  have hs := hg.size
  have no : ∀ x, x < w.heap.size → v.ownBlock ≠ some x → (Value.slice (some ⟨gg, 0, none⟩) n cap).ownBlock ≠ some x := by
    intro x hx hne e
    simp only [Value.ownBlock, Option.some.injEq] at e
    subst e
    rcases hat with h' | h'
    · exact hne h'
    · omega
  refine ⟨g1, g2, a1, a2, a3, a4, by omega, by omega, no g1 a5 a7, no g2 a6 a8, a9, a10, ?_, ?_⟩
  · rw [a1]; exact i1.block hs (hg.block g1 a5 (fun e => a7 e.symm))
  · rw [a2]; exact i2.block hs (hg.block g2 a6 (fun e => a8 e.symm))
theorem ownsRow_other {w : World} {base : Nat} {e : TypeId} {size : Nat} {v : Value} {n : Nat} {xs : List Value} (h : w.ownsRow base e size v n xs) {a : Addr} (ha : ∀ r, v.ownBlock = some r → r ≠ a.block) (u : Value) : (w.setCell a u).ownsRow base e size v n xs := by
  obtain ⟨hl, h⟩ := h
  refine ⟨hl, ?_⟩
  rcases h with h | ⟨g, cap, cur, h1, h2, h3, h4⟩
  · exact Or.inl h
  · exact Or.inr ⟨g, cap, cur, h1, h2, (heap_setCell_other w a g u (ha g (by rw [h1]; rfl))).trans h3, h4⟩

/-- Where the loop stands: a row of the call's own that holds the entries qs. -/
structure Copied (w wr : World) (k : Nat) (qs : List EV) (v : Value) : Prop where
  b : Below w.heap.size w wr
  S : wr.ownsRow w.heap.size 150 4 v k (qs.flatMap EV.cells)
  R : ReadE wr w.heap.size v qs

theorem entries_of_owns {w : World} {base n : Nat} {v : Value} {qs : List EV} (h : w.ownsRow base 150 4 v n (qs.flatMap EV.cells)) (hr : ∀ q ∈ qs, EntryOk w q) : ∃ A c, v = .slice A n c ∧ Entries w A n qs := by
  obtain ⟨hl, h⟩ := h
  rw [eCells_len] at hl
  have hl' : qs.length = n := by omega
  rcases h with ⟨rfl, rfl⟩ | ⟨g, cap, cur, rfl, h2, h3, h4, h5, h6, h7⟩
  · exact ⟨none, 0, rfl, hl', fun h => absurd h (Nat.lt_irrefl 0), hr⟩
  · refine ⟨_, _, rfl, hl', fun _ => ⟨g, 0, rfl, ?_, fun k q hk => ?_⟩, hr⟩
    · rcases Nat.lt_or_ge g w.heap.size with h' | h'
      · exact h'
      · exact absurd (h3.symm.trans (Array.getElem?_eq_none h')) (by simp)
    · have hkn : k < n := by have := (List.getElem?_eq_some_iff.1 hk).1; omega
      have cell : ∀ j v, q.cells[j]? = some v → w.cell? ⟨g, 0 + k * 4 + j, none⟩ = some v := by
        intro j v hv
        have hj : j < 4 := by have := (List.getElem?_eq_some_iff.1 hv).1; simpa [EV.cells] using this
        rw [Nat.zero_add, cell_of_row w g (k * 4 + j) cur 150 (0, 0) h3]
        have h8 : (cur.toList.take (n * 4))[k * 4 + j]? = some v := by rw [h7]; exact eCells_at hk hv
        rw [List.getElem?_take, if_pos (by omega)] at h8
        simpa using h8
      exact ⟨cell 0 _ rfl, cell 1 _ rfl, cell 2 _ rfl, cell 3 _ rfl⟩

set_option maxRecDepth 100000 in
set_option maxHeartbeats 6400000 in
theorem l3Entries_any (n c dd : Nat) (A : Option Addr) (ps : List EV) (w : World) (hp : Entries w A n ps) (hn : n ≤ 6) (hd : 0 < dd) (hd3 : dd ≤ 3) (hl : LensE dd (ps.map EV.val)) :
    Calls Tryz.prog 84 #[.slice A n c] w fun e w' => ∃ v qs, e = .returned v ∧ Copied w w' n qs v ∧ qs.map EV.val = ps.map EV.val := by
  have HP := Lib.hid hp
  have HE := Lib.hid hl
  have HL : Hid (ps.length = n) := hp.1
  clear hp hl
  obtain ⟨i0, hi0, hz0, hz1, hz2⟩ := info_entry4
  have IP := Lib.hid (And.intro hi0 (And.intro hz0 (And.intro hz1 hz2)))
  clear hi0 hz0 hz1 hz2
  have ST : Hid (Copied w (w.alloc (.cells #[] 150)) 0 [] (.slice (some ⟨w.heap.size, 0, none⟩) 0 0)) := ⟨below_alloc _ _, ⟨rfl, Or.inr ⟨w.heap.size, 0, #[], rfl, Nat.le_refl _, heap_alloc_new w _, Nat.le_refl _, Nat.zero_le _, rfl, rfl⟩⟩, fun q hq => by simp at hq⟩
  go_enter Tryz.func84, Tryz.ntmps84
  go_wp2
  go_loopw [3, 4] (fun vv i wr => ∃ (k : Nat) (v : Value) (qs : List EV), k ≤ n ∧ i = .int .i64 k ∧ v = vv ∧ Hid (Copied w wr k qs v) ∧ Hid (qs.map EV.val = (ps.take k).map EV.val)) (fun _ i _ => n - (intOf i).toNat)
  case atStart => exact ⟨0, _, [], Nat.zero_le _, rfl, rfl, ST, rfl⟩
  case round =>
    obtain ⟨k, v, qs, hk, rfl, rfl, hU, hV⟩ := hrel
    clear ST
    by_cases hlt : k < n
    · obtain ⟨b, o, A1, n1, c1, A2, n2, c2, ref, nsn, x1, x2, rfl, hb, d0, d1, d2, d3, hx, i1, i2, m1, m2⟩ := HP.out.cellAt hlt
      have HX := Lib.hid (eval_get hx.out)
      have l1 : dd = n1 := (i1.out.1.symm.trans (HE.out k _ HX.out).1).symm
      have l2 : dd = n2 := (i2.out.1.symm.trans (HE.out k _ HX.out).2).symm
      subst l1
      subst l2
      have e0 : wr.cell? ⟨b, o + k * 4, none⟩ = some (.slice A1 dd c1) := (hU.out.b.cell (p := ⟨b, o + k * 4, none⟩) hb).trans d0
      have e1 : wr.cell? ⟨b, o + k * 4 + 1, none⟩ = some (.slice A2 dd c2) := (hU.out.b.cell (p := ⟨b, o + k * 4 + 1, none⟩) hb).trans d1
      have e2 : wr.cell? ⟨b, o + k * 4 + 2, none⟩ = some (.int .i64 ref) := (hU.out.b.cell (p := ⟨b, o + k * 4 + 2, none⟩) hb).trans d2
      have e3 : wr.cell? ⟨b, o + k * 4 + 3, none⟩ = some (.int .i64 nsn) := (hU.out.b.cell (p := ⟨b, o + k * 4 + 3, none⟩) hb).trans d3
      clear d0 d1 d2 d3
      have bsz := hU.out.b.size
      have ba := Lib.hid (below_alloc wr (.cells #[.slice A1 dd c1, .slice A2 dd c2, .int .i64 ref, .int .i64 nsn] 150))
      have kb : b < (wr.alloc (.cells #[.slice A1 dd c1, .slice A2 dd c2, .int .i64 ref, .int .i64 nsn] 150)).heap.size := by simp only [World.size_alloc]; omega
      have E0 := Lib.hid ((ba.out.cell (p := ⟨b, o + k * 4, none⟩) (by show b < _; omega)).trans e0)
      have E1 := Lib.hid ((ba.out.cell (p := ⟨b, o + k * 4 + 1, none⟩) (by show b < _; omega)).trans e1)
      have L_e := Lib.hid (Lies.new wr 150 #[.slice A1 dd c1, .slice A2 dd c2, .int .i64 ref, .int .i64 nsn])
      have bb := Lib.hid (hU.out.b.alloc hU.out.b.size (.cells #[.slice A1 dd c1, .slice A2 dd c2, .int .i64 ref, .int .i64 nsn] 150))
      have SS := Lib.hid (hU.out.S.alloc (.cells #[.slice A1 dd c1, .slice A2 dd c2, .int .i64 ref, .int .i64 nsn] 150))
      have RR := Lib.hid (hU.out.R.kept ba.out)
      have vb := Lib.hid (ownsRow_block2 hU.out.S)
      have RB : Hid (∀ q ∈ qs, blk q.A1 ≠ wr.heap.size ∧ blk q.A2 ≠ wr.heap.size) := by
        intro q hq
        obtain ⟨g1, g2, a1, a2, _, _, a5, a6, _⟩ := hU.out.R q hq
        rw [a1, a2]
        exact ⟨by show g1 ≠ _; omega, by show g2 ≠ _; omega⟩
      clear hU ba
      go_wp2_with fail
      refine (l1Copy_any b (o + k * 4) dd c1 c2 _ _ A1 A2 x1 x2 _ kb E0.out E1.out (i1.out.kept bb.out) (i2.out.kept bb.out) hd hd3).mono ?_
      rintro e W1 ⟨g, cap, g', cap', rfl, j1, j2, b1⟩
      simp only [World.size_alloc] at j1 j2
      obtain ⟨gb, go, ge, gl, gs⟩ := j1.formE hd
      obtain ⟨gb', go', ge', gl', gs'⟩ := j2.formE hd
      injection ge with ge
      injection ge with ge1 ge2
      injection ge' with ge'
      injection ge' with ge1' ge2'
      subst ge1 ge2 ge1' ge2'
      clear e0 e1 e2 e3 E0 E1
      replace L_e := Lib.hid (L_e.out.kept b1 L_e.out.inside)
      replace bb := Lib.hid (bb.out.trans (b1.mono bb.out.size))
      replace SS := Lib.hid (ownsRow_below SS.out b1)
      replace RR := Lib.hid (RR.out.kept b1)
      have b1s := b1.size
      simp only [World.size_alloc] at b1s
      have J1 := Lib.hid j1
      have J2 := Lib.hid j2
      clear b1 j1 j2 i1 i2
      have NB : Hid (∀ r, v.ownBlock = some r → r ≠ wr.heap.size) := fun r e => by have := (vb.out r e).2; omega
      have S2 := Lib.hid (ownsRow_other (ownsRow_other SS.out (a := ⟨wr.heap.size, 0, none⟩) NB.out (.slice (some ⟨g, 0, none⟩) dd cap)) (a := ⟨wr.heap.size, 1, none⟩) NB.out (.slice (some ⟨g', 0, none⟩) dd cap'))
      have R2 : Hid (ReadE ((W1.setCell ⟨wr.heap.size, 0, none⟩ (.slice (some ⟨g, 0, none⟩) dd cap)).setCell ⟨wr.heap.size, 1, none⟩ (.slice (some ⟨g', 0, none⟩) dd cap')) w.heap.size v (qs ++ [⟨some ⟨g, 0, none⟩, dd, cap, some ⟨g', 0, none⟩, dd, cap', ref, nsn, x1, x2⟩])) := by
        intro q hq
        rcases List.mem_append.1 hq with hq | hq
        · exact ((RR.out.far (a := ⟨wr.heap.size, 0, none⟩) RB.out (.slice (some ⟨g, 0, none⟩) dd cap)).far (a := ⟨wr.heap.size, 1, none⟩) RB.out (.slice (some ⟨g', 0, none⟩) dd cap')) q hq
        · simp only [List.mem_singleton] at hq
          subst hq
          refine ⟨g, g', rfl, rfl, by omega, by omega, by simp only [size_of_setCell]; exact gs, by simp only [size_of_setCell]; exact gs', fun e => by have := (vb.out g e).2; omega, fun e => by have := (vb.out g' e).2; omega, m1, m2, ?_, ?_⟩
          · exact ((J1.out.lower (Nat.zero_le _)).block (Nat.le_of_eq (size_of_setCell _ _ _).symm) (heap_setCell_other W1 ⟨wr.heap.size, 0, none⟩ g _ (by show g ≠ wr.heap.size; omega))).block (Nat.le_of_eq (size_of_setCell _ _ _).symm) (heap_setCell_other _ ⟨wr.heap.size, 1, none⟩ g _ (by show g ≠ wr.heap.size; omega))
          · exact ((J2.out.lower (Nat.zero_le _)).block (Nat.le_of_eq (size_of_setCell _ _ _).symm) (heap_setCell_other W1 ⟨wr.heap.size, 0, none⟩ g' _ (by show g' ≠ wr.heap.size; omega))).block (Nat.le_of_eq (size_of_setCell _ _ _).symm) (heap_setCell_other _ ⟨wr.heap.size, 1, none⟩ g' _ (by show g' ≠ wr.heap.size; omega))
      have B2 := Lib.hid ((bb.out.setCell (p := ⟨wr.heap.size, 0, none⟩) (by show w.heap.size ≤ wr.heap.size; omega) (.slice (some ⟨g, 0, none⟩) dd cap)).setCell (p := ⟨wr.heap.size, 1, none⟩) (by show w.heap.size ≤ wr.heap.size; omega) (.slice (some ⟨g', 0, none⟩) dd cap'))
      have HV' : Hid ((qs ++ [(⟨some ⟨g, 0, none⟩, dd, cap, some ⟨g', 0, none⟩, dd, cap', ref, nsn, x1, x2⟩ : EV)]).map EV.val = (ps.take (k + 1)).map EV.val) := by
        show List.map EV.val _ = _
        rw [List.map_append, hV.out, List.take_add_one, hx.out, List.map_append]; rfl
      have q0 : W1.cell? ⟨wr.heap.size, 0, none⟩ = some (.slice A1 dd c1) := L_e.out.cell 0
      have q1 : W1.cell? ⟨wr.heap.size, 1, none⟩ = some (.slice A2 dd c2) := L_e.out.cell 1
      have q2 : W1.cell? ⟨wr.heap.size, 2, none⟩ = some (.int .i64 ref) := L_e.out.cell 2
      have q3 : W1.cell? ⟨wr.heap.size, 3, none⟩ = some (.int .i64 nsn) := L_e.out.cell 3
      have f0 : W1.frozen? ⟨wr.heap.size, 0, none⟩ = false := L_e.out.thawed 0
      have f1 : W1.frozen? ⟨wr.heap.size, 1, none⟩ = false := L_e.out.thawed 1
      generalize hWS : ((W1.setCell ⟨wr.heap.size, 0, none⟩ (.slice (some ⟨g, 0, none⟩) dd cap)).setCell ⟨wr.heap.size, 1, none⟩ (.slice (some ⟨g', 0, none⟩) dd cap')) = WS at S2 R2 B2
      have hsz : WS.heap.size = W1.heap.size := by rw [← hWS]; simp only [size_of_setCell]
      have HWS := Lib.hid hWS
      have HSZ := Lib.hid hsz
      have NEWS := Lib.hid (World.news_of_block (Lies.new WS 150 #[.slice (some ⟨g, 0, none⟩) dd cap, .slice (some ⟨g', 0, none⟩) dd cap', .int .i64 ref, .int .i64 nsn]))
      have S3 := Lib.hid (S2.out.alloc (.cells #[.slice (some ⟨g, 0, none⟩) dd cap, .slice (some ⟨g', 0, none⟩) dd cap', .int .i64 ref, .int .i64 nsn] 150))
      have R3 := Lib.hid (R2.out.kept (below_alloc WS (.cells #[.slice (some ⟨g, 0, none⟩) dd cap, .slice (some ⟨g', 0, none⟩) dd cap', .int .i64 ref, .int .i64 nsn] 150)))
      have B3 := Lib.hid (B2.out.alloc B2.out.size (.cells #[.slice (some ⟨g, 0, none⟩) dd cap, .slice (some ⟨g', 0, none⟩) dd cap', .int .i64 ref, .int .i64 nsn] 150))
      rw [HSZ.out] at NEWS
      have wsz : w.heap.size ≤ W1.heap.size := by omega
      clear hWS hsz S2 R2 B2 SS RR bb L_e J1 J2 hV hx HX
      go_wp2_with (with_reducible refine wpList_append_lies _ rfl (.tmp 23) (.tmp 25) 40 rfl w.heap.size 150 i0 (.agg #[.slice none 0 0, .slice none 0 0, .int .i64 0, .int .i64 0]) 4 64 Tryz.underlying40 IP.out.1 IP.out.2.1 IP.out.2.2.1 IP.out.2.2.2 rfl (by omega) v k (qs.flatMap EV.cells) rfl ?q0 ⟨W1.heap.size, 0, none⟩ 1 1 [.slice (some ⟨g, 0, none⟩) dd cap, .slice (some ⟨g', 0, none⟩) dd cap', .int .i64 ref, .int .i64 nsn] rfl rfl ?q1 ?q2 (by omega) ?q3 ?q4 ?q5 (W1.heap.size + 1) ?q6 ?_)
      case q0 => rw [HWS.out]; exact S3.out
      case q1 => rw [HWS.out]; exact NEWS.out
      case q2 => simp [Value.oneCell']
      case q3 => unfold maxLen; omega
      case q4 => omega
      case q5 => simp only [World.size_alloc, size_of_setCell]; omega
      case q6 => simp only [World.size_alloc, size_of_setCell]
      rw [HWS.out]
      intro gg cap2 w' ho hg hat hlt2
      have hU' : Hid (Copied w w' (k + 1) (qs ++ [⟨some ⟨g, 0, none⟩, dd, cap, some ⟨g', 0, none⟩, dd, cap', ref, nsn, x1, x2⟩]) (.slice (some ⟨gg, 0, none⟩) (k + 1) cap2)) := by
        refine ⟨below_grown2 B3.out hg (fun r e => (vb.out r e).1) B3.out.size, ?_, R3.out.grown hg (hat.imp id fun h => ?_)⟩
        · rw [List.flatMap_append]; simpa [EV.cells] using ho
        · rw [h]; simp only [World.size_alloc]; rw [HSZ.out]; omega
      clear ho hg hat hlt2 S3 R3 B3 NEWS
      go_wp2
      go_roundw
      case rel => exact ⟨k + 1, _, _, by omega, by go_num, rfl, hU', HV'⟩
      case measure => simp [intOf]; omega
    · have hkn : k = n := by omega
      have HV : Hid (qs.map EV.val = ps.map EV.val) := by
        have := hV.out
        rwa [List.take_of_length_le (by rw [HL.out]; omega)] at this
      have HU : Hid (Copied w wr n qs v) := hkn ▸ hU.out
      clear hkn
      go_wp2
      go_ret
      exact ⟨_, qs, rfl, HU.out, HV.out⟩

end Go.Proofs.YtpgoildfjkokiaaGreat

/- The walk of spec.NodeFault. No condition but the length. -/
namespace Go.Proofs.YtpgoildfjkokiaaGreat
open Go.RowKit

set_option maxRecDepth 100000 in
set_option maxHeartbeats 6400000 in
theorem specNodeFault_any (lv ns rt d : Int) (n c : Nat) (A : Option Addr) (ps : List EV) (w : World) (hp : Entries w A n ps) (hn : n ≤ maxLen) :
    Calls Tryz.prog 80 #[.agg #[.int .i64 lv, .int .i64 ns, .int .i64 rt, .slice A n c], .int .i64 d] w fun e w' => e = .returned (.int .i64 (nodeF lv ns rt (ps.map EV.val) d)) ∧ Below w.heap.size w w' := by
  have HP := Lib.hid hp
  have HL : Hid ((ps.map EV.val).length = n) := by show List.length _ = n; rw [List.length_map]; exact hp.1
  clear hp
  have B := Lib.hid (below_alloc w (.cells #[.int .i64 lv, .int .i64 ns, .int .i64 rt, .slice A n c] 42))
  have L_n := Lib.hid (Lies.new w 42 #[.int .i64 lv, .int .i64 ns, .int .i64 rt, .slice A n c])
  have hn0 := hn
  unfold maxLen at hn
  by_cases hd : 2 ≤ d ∧ d ≤ 3
  rotate_left
  · have HF := Lib.hid (nodeF_head (lv := lv) (ns := ns) (rt := rt) (vs := ps.map EV.val) (fun h : headOk lv ns rt d => hd h.1))
    go_enter Tryz.func80, Tryz.ntmps80
    go_wp2_with fail
    refine (l1In_no _ _ _ _ hd).mono ?_
    rintro e w' ⟨rfl, rfl⟩
    go_wp2
    go_ret
    exact ⟨ret_i64 HF.out.symm, B.out⟩
  by_cases hl : 0 ≤ lv ∧ lv ≤ 6
  rotate_left
  · have HF := Lib.hid (nodeF_head (lv := lv) (ns := ns) (rt := rt) (vs := ps.map EV.val) (fun h : headOk lv ns rt d => hl h.2.1))
    go_enter Tryz.func80, Tryz.ntmps80
    go_wp2_with fail
    refine (l1In_yes _ _ _ _ hd.1 hd.2).mono ?_
    rintro e w' ⟨rfl, rfl⟩
    go_wp2_with fail
    refine (l1In_no _ _ _ _ hl).mono ?_
    rintro e w' ⟨rfl, rfl⟩
    go_wp2
    go_ret
    exact ⟨ret_i64 HF.out.symm, B.out⟩
  by_cases hs : 0 ≤ ns ∧ ns ≤ 100000
  rotate_left
  · have HF := Lib.hid (nodeF_head (lv := lv) (ns := ns) (rt := rt) (vs := ps.map EV.val) (fun h : headOk lv ns rt d => hs h.2.2.1))
    go_enter Tryz.func80, Tryz.ntmps80
    go_wp2_with fail
    refine (l1In_yes _ _ _ _ hd.1 hd.2).mono ?_
    rintro e w' ⟨rfl, rfl⟩
    go_wp2_with fail
    refine (l1In_yes _ _ _ _ hl.1 hl.2).mono ?_
    rintro e w' ⟨rfl, rfl⟩
    go_wp2_with fail
    refine (l1In_no _ _ _ _ hs).mono ?_
    rintro e w' ⟨rfl, rfl⟩
    go_wp2
    go_ret
    exact ⟨ret_i64 HF.out.symm, B.out⟩
  by_cases hr : -1 ≤ rt ∧ rt ≤ 39
  rotate_left
  · have HF := Lib.hid (nodeF_head (lv := lv) (ns := ns) (rt := rt) (vs := ps.map EV.val) (fun h : headOk lv ns rt d => hr h.2.2.2))
    go_enter Tryz.func80, Tryz.ntmps80
    go_wp2_with fail
    refine (l1In_yes _ _ _ _ hd.1 hd.2).mono ?_
    rintro e w' ⟨rfl, rfl⟩
    go_wp2_with fail
    refine (l1In_yes _ _ _ _ hl.1 hl.2).mono ?_
    rintro e w' ⟨rfl, rfl⟩
    go_wp2_with fail
    refine (l1In_yes _ _ _ _ hs.1 hs.2).mono ?_
    rintro e w' ⟨rfl, rfl⟩
    go_wp2_with fail
    refine (l1In_no _ _ _ _ hr).mono ?_
    rintro e w' ⟨rfl, rfl⟩
    go_wp2
    go_ret
    exact ⟨ret_i64 HF.out.symm, B.out⟩
  have HH : Hid (headOk lv ns rt d) := ⟨hd, hl, hs, hr⟩
  by_cases hm : 5 < n
  · have HF := Lib.hid (nodeF_many HH.out (by rw [HL.out]; exact hm))
    go_enter Tryz.func80, Tryz.ntmps80
    go_wp2_with fail
    refine (l1In_yes _ _ _ _ hd.1 hd.2).mono ?_
    rintro e w' ⟨rfl, rfl⟩
    go_wp2_with fail
    refine (l1In_yes _ _ _ _ hl.1 hl.2).mono ?_
    rintro e w' ⟨rfl, rfl⟩
    go_wp2_with fail
    refine (l1In_yes _ _ _ _ hs.1 hs.2).mono ?_
    rintro e w' ⟨rfl, rfl⟩
    go_wp2_with fail
    refine (l1In_yes _ _ _ _ hr.1 hr.2).mono ?_
    rintro e w' ⟨rfl, rfl⟩
    go_wp2
    go_ret
    exact ⟨ret_i64 HF.out.symm, B.out⟩
  have HM : Hid (¬ 5 < (ps.map EV.val).length) := by show ¬ _; rw [HL.out]; exact hm
  go_enter Tryz.func80, Tryz.ntmps80
  go_wp2_with fail
  refine (l1In_yes _ _ _ _ hd.1 hd.2).mono ?_
  rintro e w' ⟨rfl, rfl⟩
  go_wp2_with fail
  refine (l1In_yes _ _ _ _ hl.1 hl.2).mono ?_
  rintro e w' ⟨rfl, rfl⟩
  go_wp2_with fail
  refine (l1In_yes _ _ _ _ hs.1 hs.2).mono ?_
  rintro e w' ⟨rfl, rfl⟩
  go_wp2_with fail
  refine (l1In_yes _ _ _ _ hr.1 hr.2).mono ?_
  rintro e w' ⟨rfl, rfl⟩
  clear hd hl hs hr
  go_wp2
  go_loopw [5] (fun i wr => ∃ k : Nat, k ≤ n ∧ i = .int .i64 k ∧ Hid (Below w.heap.size w wr) ∧ Hid (Lies wr w.heap.size 42 #[.int .i64 lv, .int .i64 ns, .int .i64 rt, .slice A n c]) ∧ Hid (∀ (j : Nat) (u : EVal), j < k → (ps.map EV.val)[j]? = some u → entF d u = 0)) (fun i _ => n - (intOf i).toNat)
  case atStart => exact ⟨0, Nat.zero_le _, rfl, B, L_n, fun j u hj => absurd hj (Nat.not_lt_zero _)⟩
  case round =>
    obtain ⟨k, hk', rfl, hB, hN, hA⟩ := hrel
    have q3 : wr.cell? ⟨w.heap.size, 3, none⟩ = some (.slice A n c) := hN.out.cell 3
    by_cases hlt : k < n
    · obtain ⟨b, o, A1, n1, c1, A2, n2, c2, ref, nsn, x1, x2, rfl, hb, d0, d1, d2, d3, hx, i1, i2, m1, m2⟩ := HP.out.cellAt hlt
      have kb := Nat.lt_of_lt_of_le hb hB.out.size
      have e0 := Lib.hid ((hB.out.cell (p := ⟨b, o + k * 4, none⟩) hb).trans d0)
      have e1 := Lib.hid ((hB.out.cell (p := ⟨b, o + k * 4 + 1, none⟩) hb).trans d1)
      have e2 := Lib.hid ((hB.out.cell (p := ⟨b, o + k * 4 + 2, none⟩) hb).trans d2)
      have e3 := Lib.hid ((hB.out.cell (p := ⟨b, o + k * 4 + 3, none⟩) hb).trans d3)
      clear d0 d1 d2 d3
      have HX := Lib.hid (eval_get hx.out)
      by_cases hz : entF d (x1, x2, ref, nsn) = 0
      · have hz1 : (entF d (x1, x2, ref, nsn) != 0) = false := by simp [hz]
        have hA' := Lib.hid (upto_next hA.out HX.out hz)
        clear hA hz hx
        go_wp2_with fail
        refine (l3Entry_any _ _ _ _ _ _ _ _ _ _ _ x1 x2 _ kb e0.out e1.out e2.out e3.out (i1.out.kept hB.out) (i2.out.kept hB.out) m1 m2).mono ?_
        rintro e W1 ⟨rfl, b1⟩
        have hN' := Lib.hid (hN.out.kept b1 hN.out.inside)
        have hB' := Lib.hid (hB.out.trans (b1.mono hB.out.size))
        clear hB hN b1 e0 e1 e2 e3 q3
        go_wp2
        go_roundw
        case rel => exact ⟨k + 1, by omega, by go_num, hB', hN', hA'⟩
        case measure => simp [intOf]; omega
      · have hz1 : (entF d (x1, x2, ref, nsn) != 0) = true := by simpa using hz
        have H1 : firstNZ (entF d) (ps.map EV.val) = entF d (x1, x2, ref, nsn) := firstNZ_stop hA.out HX.out hz
        have HF : Hid (nodeF lv ns rt (ps.map EV.val) d = entF d (x1, x2, ref, nsn)) := (nodeF_first HH.out HM.out (by rw [H1]; exact hz)).trans H1
        clear hA hz hx H1
        go_wp2_with fail
        refine (l3Entry_any _ _ _ _ _ _ _ _ _ _ _ x1 x2 _ kb e0.out e1.out e2.out e3.out (i1.out.kept hB.out) (i2.out.kept hB.out) m1 m2).mono ?_
        rintro e W1 ⟨rfl, b1⟩
        go_wp2
        go_ret
        exact ⟨ret_i64 HF.out.symm, hB.out.trans (b1.mono hB.out.size)⟩
    · have H1 := Lib.hid (firstNZ_all (upto_end hA.out (by rw [HL.out]; omega)))
      clear hA
      go_wp2
      clear q3 hk' hlt
      go_loopw [7] (fun i wr => ∃ k : Nat, k ≤ n ∧ i = .int .i64 k ∧ Hid (Below w.heap.size w wr) ∧ Hid (Lies wr w.heap.size 42 #[.int .i64 lv, .int .i64 ns, .int .i64 rt, .slice A n c]) ∧ Hid (∀ (j : Nat) (u : EVal), j < k → (ps.map EV.val)[j]? = some u → fitsE lv u = true)) (fun i _ => n - (intOf i).toNat)
      case atStart => exact ⟨0, Nat.zero_le _, rfl, hB, hN, fun j u hj => absurd hj (Nat.not_lt_zero _)⟩
      case round =>
        obtain ⟨k, hk', rfl, hB2, hN2, hA⟩ := hrel
        have q3 : wr.cell? ⟨w.heap.size, 3, none⟩ = some (.slice A n c) := hN2.out.cell 3
        have q0 : wr.cell? ⟨w.heap.size, 0, none⟩ = some (.int .i64 lv) := hN2.out.cell 0
        by_cases hlt : k < n
        · obtain ⟨b, o, A1, n1, c1, A2, n2, c2, ref, nsn, x1, x2, rfl, hb, d0, d1, d2, d3, hx, i1, i2, m1, m2⟩ := HP.out.cellAt hlt
          have e2 := Lib.hid ((hB2.out.cell (p := ⟨b, o + k * 4 + 2, none⟩) hb).trans d2)
          have e3 := Lib.hid ((hB2.out.cell (p := ⟨b, o + k * 4 + 3, none⟩) hb).trans d3)
          clear d0 d1 d2 d3 i1 i2
          have HX := Lib.hid (eval_get hx.out)
          clear hx
          cases hz : fitsE lv (x1, x2, ref, nsn)
          · have HF := Lib.hid (nodeF_form HH.out HM.out H1.out (all_stop HX.out hz))
            have HZ := Lib.hid hz
            clear hA hz
            go_wp2
            go_quiet ((go_at_call 113; exact l3Fits_q _ _ _ _ _ _ _ x1 x2 _ HZ.out e2.out e3.out))
            go_wp2
            go_ret
            exact ⟨ret_i64 HF.out.symm, below_draws hB2.out _⟩
          · have hA' := Lib.hid (upto_next hA.out HX.out hz)
            have HZ := Lib.hid hz
            clear hA hz
            go_wp2
            go_quiet ((go_at_call 113; exact l3Fits_q _ _ _ _ _ _ _ x1 x2 _ HZ.out e2.out e3.out))
            go_wp2
            go_roundw
            case rel => exact ⟨k + 1, by omega, by go_num, below_draws hB2.out _, hN2.out.draws _, hA'⟩
            case measure => simp [intOf]; omega
        · have HT := Lib.hid (nodeF_twice HH.out HM.out H1.out (all_next (upto_end hA.out (by rw [HL.out]; omega))))
          clear hA
          clear hB hN
          go_wp2
          clear q3 q0 hk' hlt
          go_loopw [8] (fun i wr => ∃ k : Nat, k ≤ n ∧ i = .int .i64 k ∧ Hid (Below w.heap.size w wr) ∧ Hid (Lies wr w.heap.size 42 #[.int .i64 lv, .int .i64 ns, .int .i64 rt, .slice A n c]) ∧ Hid (∀ (j : Nat) (u : EVal), j < k → (ps.map EV.val)[j]? = some u → findE u.2.2.1 (ps.map EV.val) = (j : Int))) (fun i _ => n - (intOf i).toNat)
          case atStart => exact ⟨0, Nat.zero_le _, rfl, hB2, hN2, fun j u hj => absurd hj (Nat.not_lt_zero _)⟩
          case round =>
            obtain ⟨k, hk', rfl, hB3, hN3, hA⟩ := hrel
            have q3 : wr.cell? ⟨w.heap.size, 3, none⟩ = some (.slice A n c) := hN3.out.cell 3
            by_cases hlt : k < n
            · obtain ⟨b, o, A1, n1, c1, A2, n2, c2, ref, nsn, x1, x2, rfl, hb, d0, d1, d2, d3, hx, i1, i2, m1, m2⟩ := HP.out.cellAt hlt
              have e2 := (hB3.out.cell (p := ⟨b, o + k * 4 + 2, none⟩) hb).trans d2
              clear d0 d1 d2 d3 i1 i2
              have HX := Lib.hid (eval_get hx.out)
              clear hx
              by_cases hz : findE ref (ps.map EV.val) = (k : Int)
              · have hA' := Lib.hid (uptoAt_next (P := fun j (u : EVal) => findE u.2.2.1 (ps.map EV.val) = (j : Int)) hA.out HX.out hz)
                have hz1 : (findE ref (ps.map EV.val) != (k : Int)) = false := by simp [hz]
                clear hA hz
                go_wp2
                go_quiet ((go_at_call 114; exact l3Find_q _ _ _ _ _ ps _ (HP.out.kept hB3.out) hn0))
                go_wp2
                go_roundw
                case rel => exact ⟨k + 1, by omega, by go_num, below_draws hB3.out _, hN3.out.draws _, hA'⟩
                case measure => simp [intOf]; omega
              · have HF : Hid (nodeF lv ns rt (ps.map EV.val) d = 6) := by show nodeF _ _ _ _ _ = _; rw [HT.out, twiceE_at HX.out hz]; rfl
                have hz1 : (findE ref (ps.map EV.val) != (k : Int)) = true := by simpa using hz
                clear hA hz
                go_wp2
                go_quiet ((go_at_call 114; exact l3Find_q _ _ _ _ _ ps _ (HP.out.kept hB3.out) hn0))
                go_wp2
                go_ret
                exact ⟨ret_i64 HF.out.symm, below_draws hB3.out _⟩
            · have HF : Hid (nodeF lv ns rt (ps.map EV.val) d = 0) := by show nodeF _ _ _ _ _ = _; rw [HT.out, twiceE_none (uptoAt_end hA.out (by rw [HL.out]; omega))]; rfl
              clear hA
              go_wp2
              go_ret
              exact ⟨ret_i64 HF.out.symm, hB3.out⟩

end Go.Proofs.YtpgoildfjkokiaaGreat
