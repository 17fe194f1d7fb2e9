/- The walks of spec.l4Take, spec.TakeNode and spec.WriteNode. -/
import Derived.Test.YtfpmbkfikfdmkabGreatSpecPost
namespace Go.Proofs.YtfpmbkfikfdmkabGreat
open Go.RowKit

theorem owns_set {w : World} {base size n c g i : Nat} {e : TypeId} {xs : List Value} (h : w.ownsRow base e size (.slice (some ⟨g, 0, none⟩) n c) n xs) (u : Value) : (w.setCell ⟨g, i, none⟩ u).ownsRow base e size (.slice (some ⟨g, 0, none⟩) n c) n (xs.set i u) := by
  obtain ⟨hl, h1⟩ := h
  refine ⟨by rw [List.length_set]; exact hl, ?_⟩
  rcases h1 with ⟨e1, _⟩ | ⟨g', cap, cur, e1, h2, h3, h4, h5, h6, h7⟩
  · injection e1 with e1; cases e1
  · injection e1 with e1 e2 e3
    injection e1 with e1
    injection e1 with e1
    subst e1 e3
    refine Or.inr ⟨g, c, cur.setIfInBounds i u, rfl, h2, heap_setCell_same w g i cur e u h3, h4, h5, by simpa using h6, ?_⟩
    rw [← h7, Array.toList_setIfInBounds, List.take_set]
theorem nv_set4 : ∀ {ns : List NV} {i : Nat} {q : NV}, i < ns.length → ((((ns.flatMap NV.cells).set (i * 4) (.int .i64 q.lv)).set (i * 4 + 1) (.int .i64 q.ns)).set (i * 4 + 2) (.int .i64 q.rt)).set (i * 4 + 3) (.slice q.A1 q.n1 q.c1) = (ns.set i q).flatMap NV.cells
  | [], i, q, h => by simp at h
  | a :: t, 0, q, _ => by simp [NV.cells]
  | a :: t, i + 1, q, h => by
    have ih := nv_set4 (ns := t) (i := i) (q := q) (by simpa using h)
    have hl : a.cells.length = 4 := rfl
    rw [List.set_cons_succ, List.flatMap_cons, List.flatMap_cons, ← ih]
    rw [List.set_append_right (h := by rw [hl]; omega), List.set_append_right (h := by rw [hl]; omega), List.set_append_right (h := by rw [hl]; omega), List.set_append_right (h := by rw [hl]; omega), hl, show (i + 1) * 4 - 4 = i * 4 by omega, show (i + 1) * 4 + 1 - 4 = i * 4 + 1 by omega, show (i + 1) * 4 + 2 - 4 = i * 4 + 2 by omega, show (i + 1) * 4 + 3 - 4 = i * 4 + 3 by omega]
theorem nodesB_set {ns : List NV} {i : Nat} {q : NV} {b : Nat} (h : b ∈ nodesB (ns.set i q)) : b ∈ nodesB ns ∨ b ∈ nodeB q := by
  obtain ⟨p, hp, hb⟩ := List.mem_flatMap.1 h
  rcases List.mem_or_eq_of_mem_set hp with hp | rfl
  · exact Or.inl (List.mem_flatMap.2 ⟨p, hp, hb⟩)
  · exact Or.inr hb
section
variable {w W : World} {base B n1 c1 n2 c2 n3 c3 g i : Nat} {d : Int} {A1 A2 A3 : Option Addr} {ns : List NV} {fs : List Int} {rs : List RV} {q : NV}
/-- A node is written into its place. -/
theorem SpAr.node (h : SpAr w base B d (some ⟨g, 0, none⟩) n1 c1 A2 n2 c2 A3 n3 c3 ns fs rs) (hi : i < n1) (hb : Below w.heap.size w W) (hq : Rows4 W w.heap.size q.n1 q.es (.slice q.A1 q.n1 q.c1)) (hq6 : q.n1 ≤ 6) (hlo : base ≤ w.heap.size) :
    SpAr ((((W.setCell ⟨g, i * 4, none⟩ (.int .i64 q.lv)).setCell ⟨g, i * 4 + 1, none⟩ (.int .i64 q.ns)).setCell ⟨g, i * 4 + 2, none⟩ (.int .i64 q.rt)).setCell ⟨g, i * 4 + 3, none⟩ (.slice q.A1 q.n1 q.c1)) base B d (some ⟨g, 0, none⟩) n1 c1 A2 n2 c2 A3 n3 c3 (ns.set i q) fs rs := by
  have h' := h.kept hb
  have hlen := h.V.N.len
  have old := h.V.inB
  have own1 : (Value.slice (some (⟨g, 0, none⟩ : Addr)) n1 c1).ownBlock = some g := rfl
  have gin := old g (Or.inl own1)
  have hBi := h.o.inside
  have hs := hb.size
  have new := hq.inB
  have gX : g ∉ nodesB ns := h.V.N.X g own1
  have gB : g ≠ B := h.x g (Or.inl own1)
  have keep : ∀ b, b ≠ g → ((((W.setCell ⟨g, i * 4, none⟩ (.int .i64 q.lv)).setCell ⟨g, i * 4 + 1, none⟩ (.int .i64 q.ns)).setCell ⟨g, i * 4 + 2, none⟩ (.int .i64 q.rt)).setCell ⟨g, i * 4 + 3, none⟩ (.slice q.A1 q.n1 q.c1)).heap[b]? = W.heap[b]? := fun b hne =>
    (((heap_setCell_other _ ⟨g, i * 4 + 3, none⟩ b _ hne).trans (heap_setCell_other _ ⟨g, i * 4 + 2, none⟩ b _ hne)).trans (heap_setCell_other _ ⟨g, i * 4 + 1, none⟩ b _ hne)).trans (heap_setCell_other _ ⟨g, i * 4, none⟩ b _ hne)
  have hsz : W.heap.size ≤ ((((W.setCell ⟨g, i * 4, none⟩ (.int .i64 q.lv)).setCell ⟨g, i * 4 + 1, none⟩ (.int .i64 q.ns)).setCell ⟨g, i * 4 + 2, none⟩ (.int .i64 q.rt)).setCell ⟨g, i * 4 + 3, none⟩ (.slice q.A1 q.n1 q.c1)).heap.size := by simp only [size_of_setCell]; exact Nat.le_refl _
  have gnew : ∀ b ∈ nodeB q, b ≠ g := fun b hb' => by have := (new b hb').1; omega
  have gold : ∀ b ∈ nodesB ns, b ≠ g := fun b hb' e => gX (e ▸ hb')
  refine ⟨(keep B (fun e => gB e.symm)).trans h'.o, ⟨⟨?_, fun p hp => ?_, fun b e hm => ?_⟩, ?_, ?_, fun b e => ⟨(h.V.d b e).1, fun hm => ?_⟩, fun b e => ⟨(h.V.e b e).1, (h.V.e b e).2.1, fun hm => ?_⟩⟩, fun b e => ?_⟩
  · rw [← nv_set4 (by omega)]
    exact owns_set (owns_set (owns_set (owns_set h'.V.N.S _) _) _) _
  · rcases List.mem_or_eq_of_mem_set hp with hp' | rfl
    · exact ⟨(h'.V.N.Q p hp').1.others hsz (fun b hb' => keep b (gold b (List.mem_flatMap.2 ⟨p, hp', hb'⟩))), (h.V.N.Q p hp').2⟩
    · exact ⟨(hq.lower2 hlo).others hsz (fun b hb' => keep b (gnew b hb')), hq6⟩
  · have e' : g = b := by simpa [Value.ownBlock] using e
    subst e'
    rcases nodesB_set hm with hm | hm
    · exact gX hm
    · exact gnew g hm rfl
  · exact ownsRow_others h'.V.F (fun b e => keep b (fun e2 => (h.V.d b e).1 (by rw [own1, e2])))
  · exact h'.V.R.others (fun b e => keep b (fun e2 => (h.V.e b (Or.inl e)).1 (by rw [own1, e2]))) (fun b e => keep b (fun e2 => (h.V.e b (Or.inr e)).1 (by rw [own1, e2])))
  · rcases nodesB_set hm with hm | hm
    · exact (h.V.d b e).2 hm
    · have := (new b hm).1; have := (old b (Or.inr (Or.inr (Or.inl e)))).2; omega
  · rcases nodesB_set hm with hm | hm
    · exact (h.V.e b e).2.2 hm
    · have := (new b hm).1; have := (old b (Or.inr (Or.inr (Or.inr e)))).2; omega
  · rcases e with e | e | e
    · exact h.x b (Or.inl e)
    · rcases nodesB_set e with e | e
      · exact h.x b (Or.inr (Or.inl e))
      · have := (new b e).1; omega
    · exact h.x b (Or.inr (Or.inr e))
/-- The free places are another list. -/
theorem SpAr.free {A2' : Option Addr} {n2' c2' : Nat} {fs' : List Int} (h : SpAr w base B d A1 n1 c1 A2 n2 c2 A3 n3 c3 ns fs rs) (hb : Below w.heap.size w W) (hF : W.ownsRow w.heap.size 2 1 (.slice A2' n2' c2') n2' (fs'.map (Value.int .i64))) (hlo : base ≤ w.heap.size) :
    SpAr (W.setCell ⟨B, 2, none⟩ (.slice A2' n2' c2')) base B d A1 n1 c1 A2' n2' c2' A3 n3 c3 ns fs' rs := by
  have h' := h.kept hb
  have old := h.V.inB
  have hBi := h.o.inside
  have new := ownsRow_block2 hF
  have keep : ∀ b, b ≠ B → (W.setCell ⟨B, 2, none⟩ (.slice A2' n2' c2')).heap[b]? = W.heap[b]? := fun b hne => heap_setCell_other W ⟨B, 2, none⟩ b _ hne
  have hsz : W.heap.size ≤ (W.setCell ⟨B, 2, none⟩ (.slice A2' n2' c2')).heap.size := Nat.le_of_eq (size_of_setCell _ _ _).symm
  refine ⟨Lies.set (w := W) h'.o 2 _, ⟨?_, ?_, ?_, fun b e => ⟨fun e2 => ?_, fun e2 => ?_⟩, fun b e => ⟨(h.V.e b e).1, fun e2 => ?_, (h.V.e b e).2.2⟩⟩, fun b e => ?_⟩
  · exact h'.V.N.others hsz (fun b e => keep b (h.x b (Or.inl e))) (fun b e => keep b (h.x b (Or.inr (Or.inl e))))
  · exact ownsRow_lower (ownsRow_others hF (fun b e => keep b (by have := (new b e).1; omega))) hlo
  · exact h'.V.R.others (fun b e => keep b (h.x b (Or.inr (Or.inr (Or.inr (Or.inl e)))))) (fun b e => keep b (h.x b (Or.inr (Or.inr (Or.inr (Or.inr e))))))
  · have := (new b e).1; have := (old b (Or.inl e2)).2; omega
  · have := (new b e).1; have := (old b (Or.inr (Or.inl e2))).2; omega
  · have := (new b e2).1; have := (old b (Or.inr (Or.inr (Or.inr e)))).2; omega
  · rcases e with e | e | e | e
    · exact h.x b (Or.inl e)
    · exact h.x b (Or.inr (Or.inl e))
    · have := (new b e).1; omega
    · exact h.x b (Or.inr (Or.inr (Or.inr e)))
/-- An arena that was copied is laid into a block of its own. -/
theorem SpV.laid (h : SpV w base A1 n1 c1 A2 n2 c2 A3 n3 c3 ns fs rs) : SpAr (w.alloc (.cells #[.int .i64 d, .slice A1 n1 c1, .slice A2 n2 c2, .slice A3 n3 c3] 35)) base w.heap.size d A1 n1 c1 A2 n2 c2 A3 n3 c3 ns fs rs :=
  ⟨Lies.new _ _ _, h.kept (below_alloc _ _), fun b e => by have := (h.inB b e).2; omega⟩
end

set_option maxRecDepth 100000 in
set_option maxHeartbeats 6400000 in
theorem l4Take_any (lv nn rt d : Int) (base B g n1 c1 n2 c2 n3 c3 n c dd i : Nat) (A2 A3 A : Option Addr) (ns : List NV) (t : List Int) (rs : List RV) (es : List EV) (w0 w : World) (h : SpAr w base B d (some ⟨g, 0, none⟩) n1 c1 A2 n2 c2 A3 n3 c3 ns ((i : Int) :: t) rs) (hi : i < n1) (hn1 : n1 ≤ 40) (hn2 : n2 ≤ 1048576) (he : Entries w0 A n es) (hb0 : Below w0.heap.size w0 w) (h00 : w0.heap.size ≤ base) (h0B : w0.heap.size ≤ B) (hn6 : n ≤ 6) (hd : 0 < dd) (hd3 : dd ≤ 3) (hl : LensE dd (es.map EV.val)) (hlo : base ≤ w.heap.size) :
    Calls Tryz.prog 48 #[.pointer (some ⟨B, 0, none⟩), .agg #[.int .i64 lv, .int .i64 nn, .int .i64 rt, .slice A n c]] w fun e w' => ∃ A2' c2' q, e = .returned (.int .i64 (i : Int)) ∧ SpAr w' base B d (some ⟨g, 0, none⟩) n1 c1 A2' (n2 - 1) c2' A3 n3 c3 (ns.set i q) t rs ∧ q.val = (lv, nn, rt, es.map EV.val) ∧ Turned (fun x => x = B ∨ x = g) w w' := by
  have HE0 := Lib.hid he
  have HB0 := Lib.hid hb0
  have HLE := Lib.hid hl
  obtain ⟨gf, gi0, gi1⟩ : ∃ x, x = g ∧ base ≤ g := ⟨g, rfl, (h.V.inB g (Or.inl rfl)).1⟩
  have gsz := (h.V.inB g (Or.inl rfl)).2
  have hBi := h.o.inside
  have hn2p : 0 < n2 := by have := h.V.F.1; simp at this; omega
  obtain ⟨f, hA2, fown, hf1, hf2, hfc, hff⟩ := owned_at h.V.F hn2p
  subst hA2
  have hcap : n2 ≤ c2 ∧ c2 ≤ maxLen := by
    rcases h.V.F.2 with ⟨e1, _⟩ | ⟨g', cap, cur, e1, h2, h3, h4, h5, _⟩
    · injection e1 with e1; cases e1
    · injection e1 with _ _ e3; subst e3; exact ⟨h4, h5⟩
  have hft : Hid (Ints w 0 (some ⟨f, 1, none⟩) (n2 - 1) t) := by
    have hl1 : t.length = n2 - 1 := by have := h.V.F.1; simp at this; omega
    refine ⟨hl1, fun h0 => ⟨f, 1, rfl, Nat.zero_le _, hf2, fun k x hx => hfc _ _ ?_⟩⟩
    rw [Nat.add_comm, List.getElem?_map, List.getElem?_cons_succ, hx]; rfl
  have hl1 : t.length = n2 - 1 := by have := h.V.F.1; simp at this; omega
  have f0 : w.cell? ⟨f, 0, none⟩ = some (.int .i64 (i : Int)) := hfc 0 _ rfl
  have S1 := Lib.hid (h.alloc (.cells #[.int .i64 lv, .int .i64 nn, .int .i64 rt, .slice A n c] 42))
  have B1 := Lib.hid (below_alloc w (.cells #[.int .i64 lv, .int .i64 nn, .int .i64 rt, .slice A n c] 42))
  have L_n := Lib.hid (Lies.new w 42 #[.int .i64 lv, .int .i64 nn, .int .i64 rt, .slice A n c])
  have HT1 : Hid (Ints (w.alloc (.cells #[.int .i64 lv, .int .i64 nn, .int .i64 rt, .slice A n c] 42)) 0 (some ⟨f, 1, none⟩) (n2 - 1) t) := hft.out.kept B1.out
  have oc2' : (w.alloc (.cells #[.int .i64 lv, .int .i64 nn, .int .i64 rt, .slice A n c] 42)).cell? ⟨B, 2, none⟩ = some (.slice (some ⟨f, 0, none⟩) n2 c2) := S1.out.o.cell 2
  have f0' : (w.alloc (.cells #[.int .i64 lv, .int .i64 nn, .int .i64 rt, .slice A n c] 42)).cell? ⟨f, 0, none⟩ = some (.int .i64 (i : Int)) := (B1.out.cell (p := ⟨f, 0, none⟩) hf2).trans f0
  clear h he hb0 hl hfc hff f0 hft
  have h12 : (1 : Int) ≤ (n2 : Int) := by omega
  have hc2i : (n2 : Int) ≤ (c2 : Int) := by omega
  go_enter Tryz.func48, Tryz.ntmps48
  by_cases hc1 : c2 = 1
  · subst hc1
    obtain rfl : n2 = 1 := by omega
    obtain rfl : t = [] := List.eq_nil_of_length_eq_zero (by omega)
    go_wp2_with fail
    refine (l1Ints_all 0 0 0 (some ⟨f, 0, none⟩) [] _ (Ints.empty _ _ _) (by omega)).mono ?_
    rintro e Wa ⟨A2', c2', rfl, hF, ba⟩
    have SA := S1.out.kept ba
    have sa := ba.size
    simp only [World.size_alloc] at sa
    have S2' := Lib.hid (S1.out.free ba hF (by simp only [World.size_alloc]; omega))
    have q2 : Wa.cell? ⟨B, 2, none⟩ = some (.slice (some ⟨f, 0, none⟩) 1 1) := SA.o.cell 2
    have q3 : Wa.frozen? ⟨B, 2, none⟩ = false := SA.o.thawed 2
    have Ba := B1.out.trans (ba.mono B1.out.size)
    have T2' : Hid (Turned (fun x => x = B ∨ x = g) w (Wa.setCell ⟨B, 2, none⟩ (.slice A2' (0) c2'))) := (Turned.of_below Ba).setCell (a := ⟨B, 2, none⟩) (Or.inl rfl) _
    have L2' := Lib.hid ((L_n.out.kept ba L_n.out.inside).far (a := ⟨B, 2, none⟩) (by show w.heap.size ≠ B; omega) (.slice A2' (0) c2'))
    clear SA hF oc2' f0' h12 hc2i
    go_upto_region 3 with fail
    generalize hWW : (Wa.setCell ⟨B, 2, none⟩ (.slice A2' (0) c2')) = W2 at *
    have sW2 : W2.heap.size = Wa.heap.size := by rw [← hWW]; exact size_of_setCell _ _ _
    clear hWW q2 q3
    have S2 := S2'
    have L2 := L2'
    have B2 := Lib.hid (T2'.out.below HB0.out (fun x hx => by rcases hx with rfl | rfl <;> omega))
    have HE := HE0
    clear S2' L2'
    have oc2 : W2.cell? ⟨B, 1, none⟩ = some (.slice (some ⟨g, 0, none⟩) n1 c1) := S2.out.o.cell 1
    have hii : (i : Int) < (n1 : Int) := by omega
    refine wp_region_last 7 (fun w' => w'.cell? ⟨B, 1, none⟩ = some (.slice (some ⟨g, 0, none⟩) n1 c1)) (by kernel_rfl) (oc2) (fun hHeld => ?_)
    apply wpAnyL_take (i := 0)
    · simp only [List.getElem?_toArray, List.getElem?_cons_succ, List.getElem?_cons_zero]; exact rfl
    refine ⟨⟨by kernel_rfl, by kernel_rfl, by kernel_rfl, by kernel_rfl, by kernel_rfl⟩, fun _ _ _ h => h, ?_, hHeld, ?_⟩
    · intro w hSw; (try dsimp only at hSw); go_simp; all_goals (with_reducible rfl)
    (try simp only [Act.put, List.setIfInBounds_toArray, List.set_cons_zero, List.set_cons_succ])
    apply wpAnyL_take (i := 1)
    · simp only [List.getElem?_toArray, List.getElem?_cons_succ, List.getElem?_cons_zero]; exact rfl
    refine ⟨⟨by kernel_rfl, by kernel_rfl, by kernel_rfl, by kernel_rfl, by kernel_rfl⟩, fun _ _ _ h => h, ?_, hHeld, ?_⟩
    · intro w hSw; (try dsimp only at hSw); go_simp; all_goals (with_reducible rfl)
    (try simp only [Act.put, List.setIfInBounds_toArray, List.set_cons_zero, List.set_cons_succ])
    apply wpAnyL_take (i := 2)
    · simp only [List.getElem?_toArray, List.getElem?_cons_succ, List.getElem?_cons_zero]; exact rfl
    refine ⟨⟨by kernel_rfl, by kernel_rfl, by kernel_rfl, by kernel_rfl, by kernel_rfl⟩, fun _ _ _ h => h, ?_, hHeld, ?_⟩
    · intro w hSw; (try dsimp only at hSw); go_simp; all_goals (with_reducible rfl)
    (try simp only [Act.put, List.setIfInBounds_toArray, List.set_cons_zero, List.set_cons_succ])
    apply wpAnyL_take (i := 3)
    · simp only [List.getElem?_toArray, List.getElem?_cons_succ, List.getElem?_cons_zero]; exact rfl
    refine ⟨⟨by kernel_rfl, by kernel_rfl, by kernel_rfl, by kernel_rfl, by kernel_rfl⟩, fun _ _ _ h => h, ?_, hHeld, ?_⟩
    · intro w hSw; (try dsimp only at hSw); go_simp; all_goals (with_reducible rfl)
    (try simp only [Act.put, List.setIfInBounds_toArray, List.set_cons_zero, List.set_cons_succ])
    apply wpAnyL_take (i := 4)
    · simp only [List.getElem?_toArray, List.getElem?_cons_succ, List.getElem?_cons_zero]; exact rfl
    refine ⟨⟨by kernel_rfl, by kernel_rfl, by kernel_rfl, by kernel_rfl, by kernel_rfl⟩, fun _ _ _ h => h, ?_, hHeld, ?_⟩
    · intro w hSw; (try dsimp only at hSw); go_simp; all_goals (with_reducible rfl)
    (try simp only [Act.put, List.setIfInBounds_toArray, List.set_cons_zero, List.set_cons_succ])
    apply wpAnyL_one (i := 5)
    · simp only [List.getElem?_toArray, List.getElem?_cons_succ, List.getElem?_cons_zero]; exact rfl
    refine ⟨by kernel_rfl, fun K hK => ?_⟩
    go_simp
    go_at_call 63
    refine (l3Copy_any lv nn rt w.heap.size n c dd A es _ L2.out.drew.inside (L2.out.drew.cell 0) (L2.out.drew.cell 1) (L2.out.drew.cell 2) (L2.out.drew.cell 3) (HE.out.kept B2.out.drew) hn6 hd hd3 HLE.out).mono ?_
    rintro e W3 ⟨A', c', qs, rfl, hR4, hvs, b3d⟩
    have b3 := below_drawn b3d
    have hR5 : Hid (Rows4 W3 W2.heap.size n qs (.slice A' n c')) := Rows4.lower2 (q := ⟨lv, nn, rt, A', n, c', qs⟩) hR4 (by (try simp only [size_of_drew]); omega)
    have HVS := Lib.hid hvs
    have HB3 := Lib.hid b3
    have oc3 : W3.cell? ⟨B, 1, none⟩ = some (.slice (some ⟨g, 0, none⟩) n1 c1) := (S2.out.kept b3).o.cell 1
    obtain ⟨qo, hqo⟩ : ∃ q, ns[i]? = some q := ⟨_, List.getElem?_eq_getElem (by rw [S2.out.V.N.len]; exact hi)⟩
    have HAT := Lib.hid (owned_at (S2.out.kept b3).V.N.S (by omega))
    obtain ⟨g', eg, _, _, hgi, hcells, hfroz⟩ := HAT.out
    injection eg with eg
    injection eg with eg
    subst eg
    have t0 : W3.cell? ⟨g, i * 4, none⟩ = some (.int .i64 qo.lv) := hcells _ _ (nvCells_at (j := 0) hqo rfl)
    have t1 : W3.cell? ⟨g, i * 4 + 1, none⟩ = some (.int .i64 qo.ns) := hcells _ _ (nvCells_at (j := 1) hqo rfl)
    have t2 : W3.cell? ⟨g, i * 4 + 2, none⟩ = some (.int .i64 qo.rt) := hcells _ _ (nvCells_at (j := 2) hqo rfl)
    have t3 : W3.cell? ⟨g, i * 4 + 3, none⟩ = some (.slice qo.A1 qo.n1 qo.c1) := hcells _ _ (nvCells_at (j := 3) hqo rfl)
    have y0 : W3.frozen? ⟨g, i * 4, none⟩ = false := hfroz _
    have y1 : W3.frozen? ⟨g, i * 4 + 1, none⟩ = false := hfroz _
    have y2 : W3.frozen? ⟨g, i * 4 + 2, none⟩ = false := hfroz _
    have y3 : W3.frozen? ⟨g, i * 4 + 3, none⟩ = false := hfroz _
    clear b3d hR4 hvs HAT hcells hfroz hqo b3
    have hS_5 := oc3
    refine hK.out _ _ (fun _ => hS_5) ?_
    clear hK K
    (try simp only [Act.put, List.setIfInBounds_toArray, List.set_cons_zero, List.set_cons_succ])
    apply wpAnyL_take (i := 6)
    · simp only [List.getElem?_toArray, List.getElem?_cons_succ, List.getElem?_cons_zero]; exact rfl
    refine ⟨⟨by kernel_rfl, by kernel_rfl, by kernel_rfl, by kernel_rfl, by kernel_rfl⟩, fun _ _ _ h => h, ?_, hS_5, ?_⟩
    · intro w hSw; (try dsimp only at hSw); go_simp; all_goals (with_reducible rfl)
    (try simp only [Act.put, List.setIfInBounds_toArray, List.set_cons_zero, List.set_cons_succ])
    apply wpAnyL_one (i := 7)
    · simp only [List.getElem?_toArray, List.getElem?_cons_succ, List.getElem?_cons_zero]; exact rfl
    refine ⟨by kernel_rfl, fun K hK => ?_⟩
    go_simp
    refine hK.out _ _ (fun h => absurd rfl h) ?_
    clear hK K
    refine wpAnyL_done (by kernel_rfl) ?_ _
    have S3 := Lib.hid (S2.out.node (q := ⟨lv, nn, rt, A', n, c', qs⟩) hi HB3.out hR5.out hn6 (by have := T2'.out.2.1; omega))
    have T3 : Hid (Turned (fun x => x = B ∨ x = g) w ((((W3.setCell ⟨g, i * 4, none⟩ (.int .i64 lv)).setCell ⟨g, i * 4 + 1, none⟩ (.int .i64 nn)).setCell ⟨g, i * 4 + 2, none⟩ (.int .i64 rt)).setCell ⟨g, i * 4 + 3, none⟩ (.slice A' n c'))) :=
      ((((T2'.out.trans (Turned.of_below HB3.out)).setCell (a := ⟨g, i * 4, none⟩) (Or.inr rfl) _).setCell (a := ⟨g, i * 4 + 1, none⟩) (Or.inr rfl) _).setCell (a := ⟨g, i * 4 + 2, none⟩) (Or.inr rfl) _).setCell (a := ⟨g, i * 4 + 3, none⟩) (Or.inr rfl) _
    clear hS_5 oc3 oc2 t0 t1 t2 t3 y0 y1 y2 y3 hHeld
    go_wp2
    go_ret
    exact ⟨rfl, A2', c2', ⟨lv, nn, rt, A', n, c', qs⟩, S3.out, by show (_, _, _, _) = _; rw [HVS.out], T3.out⟩
  · have hc2 : ¬ ((c2 : Int) = 1) := by omega
    go_wp2_with fail
    refine (l1Ints_all (n2 - 1) (c2 - 1) 0 (some ⟨f, 1, none⟩) t _ HT1.out (by omega)).mono ?_
    rintro e Wa ⟨A2', c2', rfl, hF, ba⟩
    have SA := S1.out.kept ba
    have sa := ba.size
    simp only [World.size_alloc] at sa
    have S2' := Lib.hid (S1.out.free ba hF (by simp only [World.size_alloc]; omega))
    have q2 : Wa.cell? ⟨B, 2, none⟩ = some (.slice (some ⟨f, 0, none⟩) n2 c2) := SA.o.cell 2
    have q3 : Wa.frozen? ⟨B, 2, none⟩ = false := SA.o.thawed 2
    have Ba := B1.out.trans (ba.mono B1.out.size)
    have T2' : Hid (Turned (fun x => x = B ∨ x = g) w (Wa.setCell ⟨B, 2, none⟩ (.slice A2' ((n2 - 1)) c2'))) := (Turned.of_below Ba).setCell (a := ⟨B, 2, none⟩) (Or.inl rfl) _
    have L2' := Lib.hid ((L_n.out.kept ba L_n.out.inside).far (a := ⟨B, 2, none⟩) (by show w.heap.size ≠ B; omega) (.slice A2' ((n2 - 1)) c2'))
    clear SA hF oc2' f0' h12 hc2i
    go_upto_region 3 with fail
    generalize hWW : (Wa.setCell ⟨B, 2, none⟩ (.slice A2' ((n2 - 1)) c2')) = W2 at *
    have sW2 : W2.heap.size = Wa.heap.size := by rw [← hWW]; exact size_of_setCell _ _ _
    clear hWW q2 q3
    have S2 := S2'
    have L2 := L2'
    have B2 := Lib.hid (T2'.out.below HB0.out (fun x hx => by rcases hx with rfl | rfl <;> omega))
    have HE := HE0
    clear S2' L2'
    have oc2 : W2.cell? ⟨B, 1, none⟩ = some (.slice (some ⟨g, 0, none⟩) n1 c1) := S2.out.o.cell 1
    have hii : (i : Int) < (n1 : Int) := by omega
    refine wp_region_last 7 (fun w' => w'.cell? ⟨B, 1, none⟩ = some (.slice (some ⟨g, 0, none⟩) n1 c1)) (by kernel_rfl) (oc2) (fun hHeld => ?_)
    apply wpAnyL_take (i := 0)
    · simp only [List.getElem?_toArray, List.getElem?_cons_succ, List.getElem?_cons_zero]; exact rfl
    refine ⟨⟨by kernel_rfl, by kernel_rfl, by kernel_rfl, by kernel_rfl, by kernel_rfl⟩, fun _ _ _ h => h, ?_, hHeld, ?_⟩
    · intro w hSw; (try dsimp only at hSw); go_simp; all_goals (with_reducible rfl)
    (try simp only [Act.put, List.setIfInBounds_toArray, List.set_cons_zero, List.set_cons_succ])
    apply wpAnyL_take (i := 1)
    · simp only [List.getElem?_toArray, List.getElem?_cons_succ, List.getElem?_cons_zero]; exact rfl
    refine ⟨⟨by kernel_rfl, by kernel_rfl, by kernel_rfl, by kernel_rfl, by kernel_rfl⟩, fun _ _ _ h => h, ?_, hHeld, ?_⟩
    · intro w hSw; (try dsimp only at hSw); go_simp; all_goals (with_reducible rfl)
    (try simp only [Act.put, List.setIfInBounds_toArray, List.set_cons_zero, List.set_cons_succ])
    apply wpAnyL_take (i := 2)
    · simp only [List.getElem?_toArray, List.getElem?_cons_succ, List.getElem?_cons_zero]; exact rfl
    refine ⟨⟨by kernel_rfl, by kernel_rfl, by kernel_rfl, by kernel_rfl, by kernel_rfl⟩, fun _ _ _ h => h, ?_, hHeld, ?_⟩
    · intro w hSw; (try dsimp only at hSw); go_simp; all_goals (with_reducible rfl)
    (try simp only [Act.put, List.setIfInBounds_toArray, List.set_cons_zero, List.set_cons_succ])
    apply wpAnyL_take (i := 3)
    · simp only [List.getElem?_toArray, List.getElem?_cons_succ, List.getElem?_cons_zero]; exact rfl
    refine ⟨⟨by kernel_rfl, by kernel_rfl, by kernel_rfl, by kernel_rfl, by kernel_rfl⟩, fun _ _ _ h => h, ?_, hHeld, ?_⟩
    · intro w hSw; (try dsimp only at hSw); go_simp; all_goals (with_reducible rfl)
    (try simp only [Act.put, List.setIfInBounds_toArray, List.set_cons_zero, List.set_cons_succ])
    apply wpAnyL_take (i := 4)
    · simp only [List.getElem?_toArray, List.getElem?_cons_succ, List.getElem?_cons_zero]; exact rfl
    refine ⟨⟨by kernel_rfl, by kernel_rfl, by kernel_rfl, by kernel_rfl, by kernel_rfl⟩, fun _ _ _ h => h, ?_, hHeld, ?_⟩
    · intro w hSw; (try dsimp only at hSw); go_simp; all_goals (with_reducible rfl)
    (try simp only [Act.put, List.setIfInBounds_toArray, List.set_cons_zero, List.set_cons_succ])
    apply wpAnyL_one (i := 5)
    · simp only [List.getElem?_toArray, List.getElem?_cons_succ, List.getElem?_cons_zero]; exact rfl
    refine ⟨by kernel_rfl, fun K hK => ?_⟩
    go_simp
    go_at_call 63
    refine (l3Copy_any lv nn rt w.heap.size n c dd A es _ L2.out.drew.inside (L2.out.drew.cell 0) (L2.out.drew.cell 1) (L2.out.drew.cell 2) (L2.out.drew.cell 3) (HE.out.kept B2.out.drew) hn6 hd hd3 HLE.out).mono ?_
    rintro e W3 ⟨A', c', qs, rfl, hR4, hvs, b3d⟩
    have b3 := below_drawn b3d
    have hR5 : Hid (Rows4 W3 W2.heap.size n qs (.slice A' n c')) := Rows4.lower2 (q := ⟨lv, nn, rt, A', n, c', qs⟩) hR4 (by (try simp only [size_of_drew]); omega)
    have HVS := Lib.hid hvs
    have HB3 := Lib.hid b3
    have oc3 : W3.cell? ⟨B, 1, none⟩ = some (.slice (some ⟨g, 0, none⟩) n1 c1) := (S2.out.kept b3).o.cell 1
    obtain ⟨qo, hqo⟩ : ∃ q, ns[i]? = some q := ⟨_, List.getElem?_eq_getElem (by rw [S2.out.V.N.len]; exact hi)⟩
    have HAT := Lib.hid (owned_at (S2.out.kept b3).V.N.S (by omega))
    obtain ⟨g', eg, _, _, hgi, hcells, hfroz⟩ := HAT.out
    injection eg with eg
    injection eg with eg
    subst eg
    have t0 : W3.cell? ⟨g, i * 4, none⟩ = some (.int .i64 qo.lv) := hcells _ _ (nvCells_at (j := 0) hqo rfl)
    have t1 : W3.cell? ⟨g, i * 4 + 1, none⟩ = some (.int .i64 qo.ns) := hcells _ _ (nvCells_at (j := 1) hqo rfl)
    have t2 : W3.cell? ⟨g, i * 4 + 2, none⟩ = some (.int .i64 qo.rt) := hcells _ _ (nvCells_at (j := 2) hqo rfl)
    have t3 : W3.cell? ⟨g, i * 4 + 3, none⟩ = some (.slice qo.A1 qo.n1 qo.c1) := hcells _ _ (nvCells_at (j := 3) hqo rfl)
    have y0 : W3.frozen? ⟨g, i * 4, none⟩ = false := hfroz _
    have y1 : W3.frozen? ⟨g, i * 4 + 1, none⟩ = false := hfroz _
    have y2 : W3.frozen? ⟨g, i * 4 + 2, none⟩ = false := hfroz _
    have y3 : W3.frozen? ⟨g, i * 4 + 3, none⟩ = false := hfroz _
    clear b3d hR4 hvs HAT hcells hfroz hqo b3
    have hS_5 := oc3
    refine hK.out _ _ (fun _ => hS_5) ?_
    clear hK K
    (try simp only [Act.put, List.setIfInBounds_toArray, List.set_cons_zero, List.set_cons_succ])
    apply wpAnyL_take (i := 6)
    · simp only [List.getElem?_toArray, List.getElem?_cons_succ, List.getElem?_cons_zero]; exact rfl
    refine ⟨⟨by kernel_rfl, by kernel_rfl, by kernel_rfl, by kernel_rfl, by kernel_rfl⟩, fun _ _ _ h => h, ?_, hS_5, ?_⟩
    · intro w hSw; (try dsimp only at hSw); go_simp; all_goals (with_reducible rfl)
    (try simp only [Act.put, List.setIfInBounds_toArray, List.set_cons_zero, List.set_cons_succ])
    apply wpAnyL_one (i := 7)
    · simp only [List.getElem?_toArray, List.getElem?_cons_succ, List.getElem?_cons_zero]; exact rfl
    refine ⟨by kernel_rfl, fun K hK => ?_⟩
    go_simp
    refine hK.out _ _ (fun h => absurd rfl h) ?_
    clear hK K
    refine wpAnyL_done (by kernel_rfl) ?_ _
    have S3 := Lib.hid (S2.out.node (q := ⟨lv, nn, rt, A', n, c', qs⟩) hi HB3.out hR5.out hn6 (by have := T2'.out.2.1; omega))
    have T3 : Hid (Turned (fun x => x = B ∨ x = g) w ((((W3.setCell ⟨g, i * 4, none⟩ (.int .i64 lv)).setCell ⟨g, i * 4 + 1, none⟩ (.int .i64 nn)).setCell ⟨g, i * 4 + 2, none⟩ (.int .i64 rt)).setCell ⟨g, i * 4 + 3, none⟩ (.slice A' n c'))) :=
      ((((T2'.out.trans (Turned.of_below HB3.out)).setCell (a := ⟨g, i * 4, none⟩) (Or.inr rfl) _).setCell (a := ⟨g, i * 4 + 1, none⟩) (Or.inr rfl) _).setCell (a := ⟨g, i * 4 + 2, none⟩) (Or.inr rfl) _).setCell (a := ⟨g, i * 4 + 3, none⟩) (Or.inr rfl) _
    clear hS_5 oc3 oc2 t0 t1 t2 t3 y0 y1 y2 y3 hHeld
    go_wp2
    go_ret
    exact ⟨rfl, A2', c2', ⟨lv, nn, rt, A', n, c', qs⟩, S3.out, by show (_, _, _, _) = _; rw [HVS.out], T3.out⟩

set_option maxRecDepth 100000 in
set_option maxHeartbeats 12800000 in
theorem specTakeNode_any (d lv nn rt : Int) (n1 c1 n2 c2 n3 c3 n c : Nat) (A1 A2 A3 A : Option Addr) (ns : List NV) (fs : List Int) (rs : List RV) (es : List EV) (w : World) (hp : ArenaL w A1 A2 A3 n1 n2 n3 ns fs rs) (hc1 : n1 ≤ c1) (hcm : c1 ≤ maxLen) (m2 : n2 ≤ 1048576) (m3 : n3 ≤ 1048576) (he : Entries w A n es) (hn : n ≤ maxLen) :
    Calls Tryz.prog 11 #[.agg #[.int .i64 d, .slice A1 n1 c1, .slice A2 n2 c2, .slice A3 n3 c3], .agg #[.int .i64 lv, .int .i64 nn, .int .i64 rt, .slice A n c]] w (SpPost (takeR d (ns.map NV.val) fs (rs.map RV.val) (lv, nn, rt, es.map EV.val)) w) := by
  have HP := Lib.hid hp
  have HE := Lib.hid he
  have m1 := hp.m1
  have HL : Hid ((ns.map NV.val).length = n1) := by show List.length _ = n1; rw [List.length_map]; exact hp.N.1
  have HLE1 : Hid ((es.map EV.val).length = n) := by show List.length _ = n; rw [List.length_map]; exact he.1
  clear hp he
  have B := Lib.hid (below_alloc w (.cells #[.int .i64 d, .slice A1 n1 c1, .slice A2 n2 c2, .slice A3 n3 c3] 35))
  replace B := Lib.hid (B.out.alloc B.out.size (.cells #[.int .i64 lv, .int .i64 nn, .int .i64 rt, .slice A n c] 42))
  replace B := Lib.hid (B.out.alloc B.out.size (.cells #[.int .i64 0, .int .i64 0, .slice none 0 0, .slice none 0 0, .slice none 0 0, .int .i64 0] 37))
  have L_a := Lib.hid (((Lies.new w 35 #[.int .i64 d, .slice A1 n1 c1, .slice A2 n2 c2, .slice A3 n3 c3]).alloc (.cells #[.int .i64 lv, .int .i64 nn, .int .i64 rt, .slice A n c] 42)).alloc (.cells #[.int .i64 0, .int .i64 0, .slice none 0 0, .slice none 0 0, .slice none 0 0, .int .i64 0] 37))
  have L_n := Lib.hid ((Lies.new (w.alloc (.cells #[.int .i64 d, .slice A1 n1 c1, .slice A2 n2 c2, .slice A3 n3 c3] 35)) 42 #[.int .i64 lv, .int .i64 nn, .int .i64 rt, .slice A n c]).alloc (.cells #[.int .i64 0, .int .i64 0, .slice none 0 0, .slice none 0 0, .slice none 0 0, .int .i64 0] 37))
  have L_r := Lib.hid (Lies.new ((w.alloc (.cells #[.int .i64 d, .slice A1 n1 c1, .slice A2 n2 c2, .slice A3 n3 c3] 35)).alloc (.cells #[.int .i64 lv, .int .i64 nn, .int .i64 rt, .slice A n c] 42)) 37 #[.int .i64 0, .int .i64 0, .slice none 0 0, .slice none 0 0, .slice none 0 0, .int .i64 0])
  simp only [World.size_alloc] at L_r L_n
  go_enter Tryz.func11, Tryz.ntmps11
  go_wp2_with fail
  refine (specArenaFault_any d n1 c1 n2 c2 n3 c3 A1 A2 A3 ns fs rs _ (HP.out.kept B.out) hc1 hcm).mono ?_
  rintro e W1 ⟨rfl, b1⟩
  replace L_r := Lib.hid (L_r.out.kept b1 L_r.out.inside)
  replace L_a := Lib.hid (L_a.out.kept b1 L_a.out.inside)
  replace L_n := Lib.hid (L_n.out.kept b1 L_n.out.inside)
  replace B := Lib.hid (B.out.trans (b1.mono B.out.size))
  clear b1
  by_cases hz : arenaF d (ns.map NV.val) fs (rs.map RV.val) = 0
  rotate_left
  · have hz1 : (arenaF d (ns.map NV.val) fs (rs.map RV.val) != 0) = true := by simpa using hz
    have HR := Lib.hid (takeR_arena (v := (lv, nn, rt, es.map EV.val)) hz)
    clear hz
    have z0 : W1.cell? ⟨w.heap.size + 1 + 1, 0, none⟩ = some (.int .i64 0) := L_r.out.cell 0
    have y0 : W1.frozen? ⟨w.heap.size + 1 + 1, 0, none⟩ = false := L_r.out.thawed 0
    have z1 : W1.cell? ⟨w.heap.size + 1 + 1, 1, none⟩ = some (.int .i64 0) := L_r.out.cell 1
    have y1 : W1.frozen? ⟨w.heap.size + 1 + 1, 1, none⟩ = false := L_r.out.thawed 1
    have z2 : W1.cell? ⟨w.heap.size + 1 + 1, 2, none⟩ = some (.slice none 0 0) := L_r.out.cell 2
    have y2 : W1.frozen? ⟨w.heap.size + 1 + 1, 2, none⟩ = false := L_r.out.thawed 2
    have z3 : W1.cell? ⟨w.heap.size + 1 + 1, 3, none⟩ = some (.slice none 0 0) := L_r.out.cell 3
    have y3 : W1.frozen? ⟨w.heap.size + 1 + 1, 3, none⟩ = false := L_r.out.thawed 3
    have z4 : W1.cell? ⟨w.heap.size + 1 + 1, 4, none⟩ = some (.slice none 0 0) := L_r.out.cell 4
    have y4 : W1.frozen? ⟨w.heap.size + 1 + 1, 4, none⟩ = false := L_r.out.thawed 4
    have z5 : W1.cell? ⟨w.heap.size + 1 + 1, 5, none⟩ = some (.int .i64 0) := L_r.out.cell 5
    have y5 : W1.frozen? ⟨w.heap.size + 1 + 1, 5, none⟩ = false := L_r.out.thawed 5
    go_wp2
    refine bodyPost_ret (v := .agg #[.int .i64 (arenaF d (ns.map NV.val) fs (rs.map RV.val)), .int .i64 0, .slice none 0 0, .slice none 0 0, .slice none 0 0, .int .i64 0]) (by simp [results, Tryz.results11, go_sem, z0, z1, z2, z3, z4, z5]) rfl ?_
    with_reducible refine SpPost.no HR.out ?_
    with_reducible (repeat (first | exact B.out | refine Below.setCell ?_ ?_ _))
    all_goals (show w.heap.size ≤ w.heap.size + 1 + 1; omega)
  have hz1 : (arenaF d (ns.map NV.val) fs (rs.map RV.val) != 0) = false := by simp [hz]
  have HZ := Lib.hid hz
  clear hz
  have x0 : W1.cell? ⟨w.heap.size + 1, 0, none⟩ = some (.int .i64 lv) := L_n.out.cell 0
  have x1 : W1.cell? ⟨w.heap.size + 1, 1, none⟩ = some (.int .i64 nn) := L_n.out.cell 1
  have x2 : W1.cell? ⟨w.heap.size + 1, 2, none⟩ = some (.int .i64 rt) := L_n.out.cell 2
  have x3 : W1.cell? ⟨w.heap.size + 1, 3, none⟩ = some (.slice A n c) := L_n.out.cell 3
  have x4 : W1.cell? ⟨w.heap.size, 0, none⟩ = some (.int .i64 d) := L_a.out.cell 0
  go_wp2_with fail
  refine (specNodeFault_any lv nn rt d n c A es _ (HE.out.kept B.out) hn).mono ?_
  rintro e W2 ⟨rfl, b2⟩
  replace L_r := Lib.hid (L_r.out.kept b2 L_r.out.inside)
  replace L_a := Lib.hid (L_a.out.kept b2 L_a.out.inside)
  replace L_n := Lib.hid (L_n.out.kept b2 L_n.out.inside)
  replace B := Lib.hid (B.out.trans (b2.mono B.out.size))
  clear b2
  clear x0 x1 x2 x3 x4
  by_cases hzn : nodeF lv nn rt (es.map EV.val) d = 0
  rotate_left
  · have hz2 : (nodeF lv nn rt (es.map EV.val) d != 0) = true := by simpa using hzn
    have HR : Hid (_ = arNo (nodeF lv nn rt (es.map EV.val) d)) := takeR_node (v := (lv, nn, rt, es.map EV.val))  HZ.out hzn
    clear hzn
    have z0 : W2.cell? ⟨w.heap.size + 1 + 1, 0, none⟩ = some (.int .i64 0) := L_r.out.cell 0
    have y0 : W2.frozen? ⟨w.heap.size + 1 + 1, 0, none⟩ = false := L_r.out.thawed 0
    have z1 : W2.cell? ⟨w.heap.size + 1 + 1, 1, none⟩ = some (.int .i64 0) := L_r.out.cell 1
    have y1 : W2.frozen? ⟨w.heap.size + 1 + 1, 1, none⟩ = false := L_r.out.thawed 1
    have z2 : W2.cell? ⟨w.heap.size + 1 + 1, 2, none⟩ = some (.slice none 0 0) := L_r.out.cell 2
    have y2 : W2.frozen? ⟨w.heap.size + 1 + 1, 2, none⟩ = false := L_r.out.thawed 2
    have z3 : W2.cell? ⟨w.heap.size + 1 + 1, 3, none⟩ = some (.slice none 0 0) := L_r.out.cell 3
    have y3 : W2.frozen? ⟨w.heap.size + 1 + 1, 3, none⟩ = false := L_r.out.thawed 3
    have z4 : W2.cell? ⟨w.heap.size + 1 + 1, 4, none⟩ = some (.slice none 0 0) := L_r.out.cell 4
    have y4 : W2.frozen? ⟨w.heap.size + 1 + 1, 4, none⟩ = false := L_r.out.thawed 4
    have z5 : W2.cell? ⟨w.heap.size + 1 + 1, 5, none⟩ = some (.int .i64 0) := L_r.out.cell 5
    have y5 : W2.frozen? ⟨w.heap.size + 1 + 1, 5, none⟩ = false := L_r.out.thawed 5
    go_wp2
    refine bodyPost_ret (v := .agg #[.int .i64 (nodeF lv nn rt (es.map EV.val) d), .int .i64 0, .slice none 0 0, .slice none 0 0, .slice none 0 0, .int .i64 0]) (by simp [results, Tryz.results11, go_sem, z0, z1, z2, z3, z4, z5]) rfl ?_
    with_reducible refine SpPost.no HR.out ?_
    with_reducible (repeat (first | exact B.out | refine Below.setCell ?_ ?_ _))
    all_goals (show w.heap.size ≤ w.heap.size + 1 + 1; omega)
  have hz2 : (nodeF lv nn rt (es.map EV.val) d != 0) = false := by simp [hzn]
  have HZN : Hid (nodeFv d (lv, nn, rt, es.map EV.val) = 0) := hzn
  obtain ⟨hok, hn5, hent, _, _⟩ := nodeF_zero hzn
  have HLEN := Lib.hid (lens_of hent)
  have hd2 := hok.1.1
  have hd3 := hok.1.2
  have hn6 : n ≤ 6 := by have := HLE1.out; omega
  obtain ⟨hdd, hnn, hnz, _⟩ := arenaF_zero HZ.out
  have hn40 : n1 ≤ 40 := by rw [HL.out] at hnn; exact hnn.2
  have HNS : Hid (∀ q ∈ ns, q.n1 ≤ 6 ∧ LensE d.toNat (q.es.map EV.val)) := by
    intro q hq
    obtain ⟨k, hk⟩ := List.getElem?_of_mem hq
    obtain ⟨_, a2, a3, _, _⟩ := nodeF_zero (firstNZ_zero hnz k _ (nval_get hk))
    have h1 := (HP.out.N.2.2 q hq).1.1
    simp only [NV.val, List.length_map] at a2
    exact ⟨by omega, lens_of a3⟩
  have HRS : Hid (∀ q ∈ rs, q.n1 ≤ 10) := by
    intro q hq
    obtain ⟨k, hk⟩ := List.getElem?_of_mem hq
    have h1 := (retF_zero (firstNZ_zero (arenaF_zero HZ.out).2.2.2.2.1 k _ (rval_get hk))).2.2
    have h2 := (HP.out.R.2.2 q hq).1.1
    simp only [RV.val] at h1
    omega
  clear hzn hok hn5 hent hdd hnn hnz
  have x5 : W2.cell? ⟨w.heap.size, 2, none⟩ = some (.slice A2 n2 c2) := L_a.out.cell 2
  rcases Nat.eq_zero_or_pos n2 with rfl | hn2p
  · obtain rfl : fs = [] := List.eq_nil_of_length_eq_zero HP.out.F.1
    have HR := Lib.hid (takeR_full HZ.out HZN.out)
    have z0 : W2.cell? ⟨w.heap.size + 1 + 1, 0, none⟩ = some (.int .i64 0) := L_r.out.cell 0
    have y0 : W2.frozen? ⟨w.heap.size + 1 + 1, 0, none⟩ = false := L_r.out.thawed 0
    have z1 : W2.cell? ⟨w.heap.size + 1 + 1, 1, none⟩ = some (.int .i64 0) := L_r.out.cell 1
    have y1 : W2.frozen? ⟨w.heap.size + 1 + 1, 1, none⟩ = false := L_r.out.thawed 1
    have z2 : W2.cell? ⟨w.heap.size + 1 + 1, 2, none⟩ = some (.slice none 0 0) := L_r.out.cell 2
    have y2 : W2.frozen? ⟨w.heap.size + 1 + 1, 2, none⟩ = false := L_r.out.thawed 2
    have z3 : W2.cell? ⟨w.heap.size + 1 + 1, 3, none⟩ = some (.slice none 0 0) := L_r.out.cell 3
    have y3 : W2.frozen? ⟨w.heap.size + 1 + 1, 3, none⟩ = false := L_r.out.thawed 3
    have z4 : W2.cell? ⟨w.heap.size + 1 + 1, 4, none⟩ = some (.slice none 0 0) := L_r.out.cell 4
    have y4 : W2.frozen? ⟨w.heap.size + 1 + 1, 4, none⟩ = false := L_r.out.thawed 4
    have z5 : W2.cell? ⟨w.heap.size + 1 + 1, 5, none⟩ = some (.int .i64 0) := L_r.out.cell 5
    have y5 : W2.frozen? ⟨w.heap.size + 1 + 1, 5, none⟩ = false := L_r.out.thawed 5
    go_wp2
    refine bodyPost_ret (v := .agg #[.int .i64 (7), .int .i64 0, .slice none 0 0, .slice none 0 0, .slice none 0 0, .int .i64 0]) (by simp [results, Tryz.results11, go_sem, z0, z1, z2, z3, z4, z5]) rfl ?_
    with_reducible refine SpPost.no HR.out ?_
    with_reducible (repeat (first | exact B.out | refine Below.setCell ?_ ?_ _))
    all_goals (show w.heap.size ≤ w.heap.size + 1 + 1; omega)
  have hn2z : ((n2 : Int) == 0) = false := by simp; omega
  obtain ⟨x, t, rfl⟩ : ∃ x t, fs = x :: t := by
    cases fs with
    | nil => have := HP.out.F.1; simp at this; omega
    | cons a t => exact ⟨a, t, rfl⟩
  have hxb := allIn_mem (freeF_rises (arenaF_zero HZ.out).2.2.2.1).1 (x := x) (by simp)
  rw [HL.out] at hxb
  obtain ⟨i, rfl⟩ := Int.eq_ofNat_of_zero_le hxb.1
  have hi : i < n1 := by omega
  have HR0 := Lib.hid (takeR_yes HZ.out HZN.out)
  clear hxb
  go_wp2_with fail
  refine (l4Copy_any w.heap.size d.toNat n1 c1 n2 c2 n3 c3 d A1 A2 A3 ns ((i : Int) :: t) rs _ L_a.out (HP.out.kept B.out) (by omega) (by omega) HNS.out HRS.out (by omega) m2 m3).mono ?_
  rintro e WC ⟨A1', c1', A2', c2', A3', c3', qs, ts, rfl, hV, hvs, hus, bc⟩
  have SB : Hid (SpAr (WC.alloc (.cells #[.int .i64 d, .slice A1' n1 c1', .slice A2' n2 c2', .slice A3' n3 c3'] 35)) W2.heap.size WC.heap.size d A1' n1 c1' A2' n2 c2' A3' n3 c3' qs ((i : Int) :: t) ts) := hV.laid
  have hAO := owned_at hV.N.S (by omega)
  obtain ⟨g, rfl, _⟩ := hAO
  have sWC := bc.size
  have hri := L_r.out.inside
  replace L_r := Lib.hid (L_r.out.kept bc L_r.out.inside)
  replace L_a := Lib.hid (L_a.out.kept bc L_a.out.inside)
  replace L_n := Lib.hid (L_n.out.kept bc L_n.out.inside)
  replace B := Lib.hid (B.out.trans (bc.mono B.out.size))
  clear bc
  replace B := Lib.hid (B.out.alloc B.out.size (.cells #[.int .i64 d, .slice (some ⟨g, 0, none⟩) n1 c1', .slice A2' n2 c2', .slice A3' n3 c3'] 35))
  replace L_r := Lib.hid (L_r.out.alloc (.cells #[.int .i64 d, .slice (some ⟨g, 0, none⟩) n1 c1', .slice A2' n2 c2', .slice A3' n3 c3'] 35))
  replace L_n := Lib.hid (L_n.out.alloc (.cells #[.int .i64 d, .slice (some ⟨g, 0, none⟩) n1 c1', .slice A2' n2 c2', .slice A3' n3 c3'] 35))
  have HVQ := Lib.hid hvs
  have HUQ := Lib.hid hus
  have gin := (hV.inB g (Or.inl rfl)).1
  clear hV hvs hus
  clear x5
  have y0' : (WC.alloc (.cells #[.int .i64 d, .slice (some ⟨g, 0, none⟩) n1 c1', .slice A2' n2 c2', .slice A3' n3 c3'] 35)).cell? ⟨w.heap.size + 1, 0, none⟩ = some (.int .i64 lv) := L_n.out.cell 0
  have y1' : (WC.alloc (.cells #[.int .i64 d, .slice (some ⟨g, 0, none⟩) n1 c1', .slice A2' n2 c2', .slice A3' n3 c3'] 35)).cell? ⟨w.heap.size + 1, 1, none⟩ = some (.int .i64 nn) := L_n.out.cell 1
  have y2' : (WC.alloc (.cells #[.int .i64 d, .slice (some ⟨g, 0, none⟩) n1 c1', .slice A2' n2 c2', .slice A3' n3 c3'] 35)).cell? ⟨w.heap.size + 1, 2, none⟩ = some (.int .i64 rt) := L_n.out.cell 2
  have y3' : (WC.alloc (.cells #[.int .i64 d, .slice (some ⟨g, 0, none⟩) n1 c1', .slice A2' n2 c2', .slice A3' n3 c3'] 35)).cell? ⟨w.heap.size + 1, 3, none⟩ = some (.slice A n c) := L_n.out.cell 3
  go_wp2_with fail
  refine (l4Take_any lv nn rt d W2.heap.size WC.heap.size g n1 c1' n2 c2' n3 c3' n c d.toNat i A2' A3' A qs t ts es w _ SB.out hi hn40 m2 HE.out B.out (by omega) (by omega) hn6 (by omega) (by omega) HLEN.out (by simp only [World.size_alloc]; omega)).mono ?_
  rintro e W4 ⟨A2n, c2n, q, rfl, hS4, hqv, hT4⟩
  clear y0' y1' y2' y3'
  replace L_r := Lib.hid (hT4.lies L_r.out (by rintro (h | h) <;> omega))
  replace B := Lib.hid (hT4.below B.out (fun x hx => by rcases hx with rfl | rfl <;> omega))
  have S4 := Lib.hid hS4
  have HVN : Hid ((qs.set i q).map NV.val = (ns.map NV.val).set i (lv, nn, rt, es.map EV.val)) := by show _ = _; rw [List.map_set, HVQ.out, hqv]
  have HR : Hid (_ = ((0 : Int), d, (ns.map NV.val).set i (lv, nn, rt, es.map EV.val), t, rs.map RV.val, (i : Int))) := HR0.out
  clear hS4 hqv hT4
  have o0 : W4.cell? ⟨WC.heap.size, 0, none⟩ = some (.int .i64 d) := S4.out.o.cell 0
  have o1 : W4.cell? ⟨WC.heap.size, 1, none⟩ = some (.slice (some ⟨g, 0, none⟩) n1 c1') := S4.out.o.cell 1
  have o2 : W4.cell? ⟨WC.heap.size, 2, none⟩ = some (.slice A2n (n2 - 1) c2n) := S4.out.o.cell 2
  have o3 : W4.cell? ⟨WC.heap.size, 3, none⟩ = some (.slice A3' n3 c3') := S4.out.o.cell 3
  have z0 : W4.cell? ⟨w.heap.size + 1 + 1, 0, none⟩ = some (.int .i64 0) := L_r.out.cell 0
  have y0 : W4.frozen? ⟨w.heap.size + 1 + 1, 0, none⟩ = false := L_r.out.thawed 0
  have z1 : W4.cell? ⟨w.heap.size + 1 + 1, 1, none⟩ = some (.int .i64 0) := L_r.out.cell 1
  have y1 : W4.frozen? ⟨w.heap.size + 1 + 1, 1, none⟩ = false := L_r.out.thawed 1
  have z2 : W4.cell? ⟨w.heap.size + 1 + 1, 2, none⟩ = some (.slice none 0 0) := L_r.out.cell 2
  have y2 : W4.frozen? ⟨w.heap.size + 1 + 1, 2, none⟩ = false := L_r.out.thawed 2
  have z3 : W4.cell? ⟨w.heap.size + 1 + 1, 3, none⟩ = some (.slice none 0 0) := L_r.out.cell 3
  have y3 : W4.frozen? ⟨w.heap.size + 1 + 1, 3, none⟩ = false := L_r.out.thawed 3
  have z4 : W4.cell? ⟨w.heap.size + 1 + 1, 4, none⟩ = some (.slice none 0 0) := L_r.out.cell 4
  have y4 : W4.frozen? ⟨w.heap.size + 1 + 1, 4, none⟩ = false := L_r.out.thawed 4
  have z5 : W4.cell? ⟨w.heap.size + 1 + 1, 5, none⟩ = some (.int .i64 0) := L_r.out.cell 5
  have y5 : W4.frozen? ⟨w.heap.size + 1 + 1, 5, none⟩ = false := L_r.out.thawed 5
  have HTS : Hid (∀ q ∈ ts, q.n1 ≤ 10) := by
    intro q hq
    obtain ⟨k, hk⟩ := List.getElem?_of_mem hq
    have h1 : q.val ∈ rs.map RV.val := by rw [← HUQ.out]; exact List.mem_map_of_mem hq
    obtain ⟨r, hr, hrv⟩ := List.mem_map.1 h1
    have h2 := HRS.out r hr
    have h3 := (HP.out.R.2.2 r hr).1.1
    have h4 : q.ws = r.ws := congrArg (fun v : RVal => v.2) hrv.symm
    have h5 := (S4.out.V.R.Q q hq).1
    simp only [List.length_map, Nat.mul_one] at h5
    rw [h4] at h5
    omega
  have AR := Lib.hid (S4.out.V)
  go_wp2
  refine bodyPost_ret (v := .agg #[.int .i64 0, .int .i64 d, .slice (some ⟨g, 0, none⟩) n1 c1', .slice A2n (n2 - 1) c2n, .slice A3' n3 c3', .int .i64 (i : Int)]) (by simp [results, Tryz.results11, go_sem, z0, z1, z2, z3, z4, z5]) rfl ?_
  with_reducible refine SpPost.yes HR.out ?_ HVN.out HUQ.out ?_
  · refine SpA.of (base := W2.heap.size) (c1 := c1') (c2 := c2n) (c3 := c3') ?_ (by omega) (by omega) m3 HTS.out (by omega)
    with_reducible (repeat (first | exact AR.out | refine SpV.far ?_ ?_ _))
    all_goals (show w.heap.size + 1 + 1 < _; omega)
  · with_reducible (repeat (first | exact B.out | refine Below.setCell ?_ ?_ _))
    all_goals (show w.heap.size ≤ w.heap.size + 1 + 1; omega)

set_option maxRecDepth 100000 in
set_option maxHeartbeats 12800000 in
theorem specWriteNode_any (d lv nn rt : Int) (n1 c1 n2 c2 n3 c3 n c : Nat) (A1 A2 A3 A : Option Addr) (ns : List NV) (id : Int) (fs : List Int) (rs : List RV) (es : List EV) (w : World) (hp : ArenaL w A1 A2 A3 n1 n2 n3 ns fs rs) (hc1 : n1 ≤ c1) (hcm : c1 ≤ maxLen) (m2 : n2 ≤ 1048576) (m3 : n3 ≤ 1048576) (he : Entries w A n es) (hn : n ≤ maxLen) :
    Calls Tryz.prog 22 #[.agg #[.int .i64 d, .slice A1 n1 c1, .slice A2 n2 c2, .slice A3 n3 c3], .int .i64 id, .agg #[.int .i64 lv, .int .i64 nn, .int .i64 rt, .slice A n c]] w (SpPost (writeR d (ns.map NV.val) fs (rs.map RV.val) id (lv, nn, rt, es.map EV.val)) w) := by
  have HP := Lib.hid hp
  have HE := Lib.hid he
  have m1 := hp.m1
  have HL : Hid ((ns.map NV.val).length = n1) := by show List.length _ = n1; rw [List.length_map]; exact hp.N.1
  have HLE1 : Hid ((es.map EV.val).length = n) := by show List.length _ = n; rw [List.length_map]; exact he.1
  clear hp he
  have B := Lib.hid (below_alloc w (.cells #[.int .i64 d, .slice A1 n1 c1, .slice A2 n2 c2, .slice A3 n3 c3] 35))
  replace B := Lib.hid (B.out.alloc B.out.size (.cells #[.int .i64 lv, .int .i64 nn, .int .i64 rt, .slice A n c] 42))
  replace B := Lib.hid (B.out.alloc B.out.size (.cells #[.int .i64 0, .int .i64 0, .slice none 0 0, .slice none 0 0, .slice none 0 0, .int .i64 0] 37))
  have L_a := Lib.hid (((Lies.new w 35 #[.int .i64 d, .slice A1 n1 c1, .slice A2 n2 c2, .slice A3 n3 c3]).alloc (.cells #[.int .i64 lv, .int .i64 nn, .int .i64 rt, .slice A n c] 42)).alloc (.cells #[.int .i64 0, .int .i64 0, .slice none 0 0, .slice none 0 0, .slice none 0 0, .int .i64 0] 37))
  have L_n := Lib.hid ((Lies.new (w.alloc (.cells #[.int .i64 d, .slice A1 n1 c1, .slice A2 n2 c2, .slice A3 n3 c3] 35)) 42 #[.int .i64 lv, .int .i64 nn, .int .i64 rt, .slice A n c]).alloc (.cells #[.int .i64 0, .int .i64 0, .slice none 0 0, .slice none 0 0, .slice none 0 0, .int .i64 0] 37))
  have L_r := Lib.hid (Lies.new ((w.alloc (.cells #[.int .i64 d, .slice A1 n1 c1, .slice A2 n2 c2, .slice A3 n3 c3] 35)).alloc (.cells #[.int .i64 lv, .int .i64 nn, .int .i64 rt, .slice A n c] 42)) 37 #[.int .i64 0, .int .i64 0, .slice none 0 0, .slice none 0 0, .slice none 0 0, .int .i64 0])
  simp only [World.size_alloc] at L_r L_n
  go_enter Tryz.func22, Tryz.ntmps22
  go_wp2_with fail
  refine (specArenaFault_any d n1 c1 n2 c2 n3 c3 A1 A2 A3 ns fs rs _ (HP.out.kept B.out) hc1 hcm).mono ?_
  rintro e W1 ⟨rfl, b1⟩
  replace L_r := Lib.hid (L_r.out.kept b1 L_r.out.inside)
  replace L_a := Lib.hid (L_a.out.kept b1 L_a.out.inside)
  replace L_n := Lib.hid (L_n.out.kept b1 L_n.out.inside)
  replace B := Lib.hid (B.out.trans (b1.mono B.out.size))
  clear b1
  by_cases hz : arenaF d (ns.map NV.val) fs (rs.map RV.val) = 0
  rotate_left
  · have hz1 : (arenaF d (ns.map NV.val) fs (rs.map RV.val) != 0) = true := by simpa using hz
    have HR := Lib.hid (writeR_arena (id := id) (v := (lv, nn, rt, es.map EV.val)) hz)
    clear hz
    have z0 : W1.cell? ⟨w.heap.size + 1 + 1, 0, none⟩ = some (.int .i64 0) := L_r.out.cell 0
    have y0 : W1.frozen? ⟨w.heap.size + 1 + 1, 0, none⟩ = false := L_r.out.thawed 0
    have z1 : W1.cell? ⟨w.heap.size + 1 + 1, 1, none⟩ = some (.int .i64 0) := L_r.out.cell 1
    have y1 : W1.frozen? ⟨w.heap.size + 1 + 1, 1, none⟩ = false := L_r.out.thawed 1
    have z2 : W1.cell? ⟨w.heap.size + 1 + 1, 2, none⟩ = some (.slice none 0 0) := L_r.out.cell 2
    have y2 : W1.frozen? ⟨w.heap.size + 1 + 1, 2, none⟩ = false := L_r.out.thawed 2
    have z3 : W1.cell? ⟨w.heap.size + 1 + 1, 3, none⟩ = some (.slice none 0 0) := L_r.out.cell 3
    have y3 : W1.frozen? ⟨w.heap.size + 1 + 1, 3, none⟩ = false := L_r.out.thawed 3
    have z4 : W1.cell? ⟨w.heap.size + 1 + 1, 4, none⟩ = some (.slice none 0 0) := L_r.out.cell 4
    have y4 : W1.frozen? ⟨w.heap.size + 1 + 1, 4, none⟩ = false := L_r.out.thawed 4
    have z5 : W1.cell? ⟨w.heap.size + 1 + 1, 5, none⟩ = some (.int .i64 0) := L_r.out.cell 5
    have y5 : W1.frozen? ⟨w.heap.size + 1 + 1, 5, none⟩ = false := L_r.out.thawed 5
    go_wp2
    refine bodyPost_ret (v := .agg #[.int .i64 (arenaF d (ns.map NV.val) fs (rs.map RV.val)), .int .i64 0, .slice none 0 0, .slice none 0 0, .slice none 0 0, .int .i64 0]) (by simp [results, Tryz.results22, go_sem, z0, z1, z2, z3, z4, z5]) rfl ?_
    with_reducible refine SpPost.no HR.out ?_
    with_reducible (repeat (first | exact B.out | refine Below.setCell ?_ ?_ _))
    all_goals (show w.heap.size ≤ w.heap.size + 1 + 1; omega)
  have hz1 : (arenaF d (ns.map NV.val) fs (rs.map RV.val) != 0) = false := by simp [hz]
  have HZ := Lib.hid hz
  clear hz
  have x0 : W1.cell? ⟨w.heap.size + 1, 0, none⟩ = some (.int .i64 lv) := L_n.out.cell 0
  have x1 : W1.cell? ⟨w.heap.size + 1, 1, none⟩ = some (.int .i64 nn) := L_n.out.cell 1
  have x2 : W1.cell? ⟨w.heap.size + 1, 2, none⟩ = some (.int .i64 rt) := L_n.out.cell 2
  have x3 : W1.cell? ⟨w.heap.size + 1, 3, none⟩ = some (.slice A n c) := L_n.out.cell 3
  have x4 : W1.cell? ⟨w.heap.size, 0, none⟩ = some (.int .i64 d) := L_a.out.cell 0
  go_wp2_with fail
  refine (specNodeFault_any lv nn rt d n c A es _ (HE.out.kept B.out) hn).mono ?_
  rintro e W2 ⟨rfl, b2⟩
  replace L_r := Lib.hid (L_r.out.kept b2 L_r.out.inside)
  replace L_a := Lib.hid (L_a.out.kept b2 L_a.out.inside)
  replace L_n := Lib.hid (L_n.out.kept b2 L_n.out.inside)
  replace B := Lib.hid (B.out.trans (b2.mono B.out.size))
  clear b2
  clear x0 x1 x2 x3 x4
  by_cases hzn : nodeF lv nn rt (es.map EV.val) d = 0
  rotate_left
  · have hz2 : (nodeF lv nn rt (es.map EV.val) d != 0) = true := by simpa using hzn
    have HR : Hid (_ = arNo (nodeF lv nn rt (es.map EV.val) d)) := writeR_node (v := (lv, nn, rt, es.map EV.val)) (id := id)  HZ.out hzn
    clear hzn
    have z0 : W2.cell? ⟨w.heap.size + 1 + 1, 0, none⟩ = some (.int .i64 0) := L_r.out.cell 0
    have y0 : W2.frozen? ⟨w.heap.size + 1 + 1, 0, none⟩ = false := L_r.out.thawed 0
    have z1 : W2.cell? ⟨w.heap.size + 1 + 1, 1, none⟩ = some (.int .i64 0) := L_r.out.cell 1
    have y1 : W2.frozen? ⟨w.heap.size + 1 + 1, 1, none⟩ = false := L_r.out.thawed 1
    have z2 : W2.cell? ⟨w.heap.size + 1 + 1, 2, none⟩ = some (.slice none 0 0) := L_r.out.cell 2
    have y2 : W2.frozen? ⟨w.heap.size + 1 + 1, 2, none⟩ = false := L_r.out.thawed 2
    have z3 : W2.cell? ⟨w.heap.size + 1 + 1, 3, none⟩ = some (.slice none 0 0) := L_r.out.cell 3
    have y3 : W2.frozen? ⟨w.heap.size + 1 + 1, 3, none⟩ = false := L_r.out.thawed 3
    have z4 : W2.cell? ⟨w.heap.size + 1 + 1, 4, none⟩ = some (.slice none 0 0) := L_r.out.cell 4
    have y4 : W2.frozen? ⟨w.heap.size + 1 + 1, 4, none⟩ = false := L_r.out.thawed 4
    have z5 : W2.cell? ⟨w.heap.size + 1 + 1, 5, none⟩ = some (.int .i64 0) := L_r.out.cell 5
    have y5 : W2.frozen? ⟨w.heap.size + 1 + 1, 5, none⟩ = false := L_r.out.thawed 5
    go_wp2
    refine bodyPost_ret (v := .agg #[.int .i64 (nodeF lv nn rt (es.map EV.val) d), .int .i64 0, .slice none 0 0, .slice none 0 0, .slice none 0 0, .int .i64 0]) (by simp [results, Tryz.results22, go_sem, z0, z1, z2, z3, z4, z5]) rfl ?_
    with_reducible refine SpPost.no HR.out ?_
    with_reducible (repeat (first | exact B.out | refine Below.setCell ?_ ?_ _))
    all_goals (show w.heap.size ≤ w.heap.size + 1 + 1; omega)
  have hz2 : (nodeF lv nn rt (es.map EV.val) d != 0) = false := by simp [hzn]
  have HZN : Hid (nodeFv d (lv, nn, rt, es.map EV.val) = 0) := hzn
  obtain ⟨hok, hn5, hent, _, _⟩ := nodeF_zero hzn
  have HLEN := Lib.hid (lens_of hent)
  have hd2 := hok.1.1
  have hd3 := hok.1.2
  have hn6 : n ≤ 6 := by have := HLE1.out; omega
  obtain ⟨hdd, hnn, hnz, _⟩ := arenaF_zero HZ.out
  have hn40 : n1 ≤ 40 := by rw [HL.out] at hnn; exact hnn.2
  have HNS : Hid (∀ q ∈ ns, q.n1 ≤ 6 ∧ LensE d.toNat (q.es.map EV.val)) := by
    intro q hq
    obtain ⟨k, hk⟩ := List.getElem?_of_mem hq
    obtain ⟨_, a2, a3, _, _⟩ := nodeF_zero (firstNZ_zero hnz k _ (nval_get hk))
    have h1 := (HP.out.N.2.2 q hq).1.1
    simp only [NV.val, List.length_map] at a2
    exact ⟨by omega, lens_of a3⟩
  have HRS : Hid (∀ q ∈ rs, q.n1 ≤ 10) := by
    intro q hq
    obtain ⟨k, hk⟩ := List.getElem?_of_mem hq
    have h1 := (retF_zero (firstNZ_zero (arenaF_zero HZ.out).2.2.2.2.1 k _ (rval_get hk))).2.2
    have h2 := (HP.out.R.2.2 q hq).1.1
    simp only [RV.val] at h1
    omega
  clear hzn hok hn5 hent hdd hnn hnz
  have k1 : W2.cell? ⟨w.heap.size, 1, none⟩ = some (.slice A1 n1 c1) := L_a.out.cell 1
  have k2 : W2.cell? ⟨w.heap.size, 2, none⟩ = some (.slice A2 n2 c2) := L_a.out.cell 2
  go_wp2_with fail
  refine (l4Read_any w.heap.size n1 c1 n2 c2 A1 A2 fs id _ L_a.out.inside k1 k2 (HP.out.F.kept B.out) m1 (Nat.le_trans m2 (by decide))).mono ?_
  rintro e W3 ⟨rfl, b3⟩
  replace L_r := Lib.hid (L_r.out.kept b3 L_r.out.inside)
  replace L_a := Lib.hid (L_a.out.kept b3 L_a.out.inside)
  replace L_n := Lib.hid (L_n.out.kept b3 L_n.out.inside)
  replace B := Lib.hid (B.out.trans (b3.mono B.out.size))
  clear b3
  clear k1 k2
  by_cases hzr : readF n1 fs id = 0
  rotate_left
  · have hz3 : (readF n1 fs id != 0) = true := by simpa using hzr
    have HR : Hid (writeR d (ns.map NV.val) fs (rs.map RV.val) id (lv, nn, rt, es.map EV.val) = arNo (readF n1 fs id)) := by
      show _ = _
      have h1 := writeR_read (v := (lv, nn, rt, es.map EV.val)) HZ.out HZN.out (by rw [HL.out]; exact hzr)
      rw [HL.out] at h1
      exact h1
    clear hzr
    have z0 : W3.cell? ⟨w.heap.size + 1 + 1, 0, none⟩ = some (.int .i64 0) := L_r.out.cell 0
    have y0 : W3.frozen? ⟨w.heap.size + 1 + 1, 0, none⟩ = false := L_r.out.thawed 0
    have z1 : W3.cell? ⟨w.heap.size + 1 + 1, 1, none⟩ = some (.int .i64 0) := L_r.out.cell 1
    have y1 : W3.frozen? ⟨w.heap.size + 1 + 1, 1, none⟩ = false := L_r.out.thawed 1
    have z2 : W3.cell? ⟨w.heap.size + 1 + 1, 2, none⟩ = some (.slice none 0 0) := L_r.out.cell 2
    have y2 : W3.frozen? ⟨w.heap.size + 1 + 1, 2, none⟩ = false := L_r.out.thawed 2
    have z3 : W3.cell? ⟨w.heap.size + 1 + 1, 3, none⟩ = some (.slice none 0 0) := L_r.out.cell 3
    have y3 : W3.frozen? ⟨w.heap.size + 1 + 1, 3, none⟩ = false := L_r.out.thawed 3
    have z4 : W3.cell? ⟨w.heap.size + 1 + 1, 4, none⟩ = some (.slice none 0 0) := L_r.out.cell 4
    have y4 : W3.frozen? ⟨w.heap.size + 1 + 1, 4, none⟩ = false := L_r.out.thawed 4
    have z5 : W3.cell? ⟨w.heap.size + 1 + 1, 5, none⟩ = some (.int .i64 0) := L_r.out.cell 5
    have y5 : W3.frozen? ⟨w.heap.size + 1 + 1, 5, none⟩ = false := L_r.out.thawed 5
    go_wp2
    refine bodyPost_ret (v := .agg #[.int .i64 (readF n1 fs id), .int .i64 0, .slice none 0 0, .slice none 0 0, .slice none 0 0, .int .i64 0]) (by simp [results, Tryz.results22, go_sem, z0, z1, z2, z3, z4, z5]) rfl ?_
    with_reducible refine SpPost.no HR.out ?_
    with_reducible (repeat (first | exact B.out | refine Below.setCell ?_ ?_ _))
    all_goals (show w.heap.size ≤ w.heap.size + 1 + 1; omega)
  have hz3 : (readF n1 fs id != 0) = false := by simp [hzr]
  have HR0 := Lib.hid (writeR_yes (v := (lv, nn, rt, es.map EV.val)) HZ.out HZN.out (by rw [HL.out]; exact hzr))
  obtain ⟨⟨q0, q1⟩, _⟩ := readF_zero hzr
  obtain ⟨k, rfl⟩ := Int.eq_ofNat_of_zero_le q0
  have hk : k < n1 := by omega
  have hki : (k : Int) < (n1 : Int) := by omega
  clear hzr q0 q1
  go_wp2_with fail
  refine (l4Copy_any w.heap.size d.toNat n1 c1 n2 c2 n3 c3 d A1 A2 A3 ns fs rs _ L_a.out (HP.out.kept B.out) (by omega) (by omega) HNS.out HRS.out (by omega) m2 m3).mono ?_
  rintro e WC ⟨A1', c1', A2', c2', A3', c3', qs, ts, rfl, hV, hvs, hus, bc⟩
  have SB : Hid (SpAr (WC.alloc (.cells #[.int .i64 d, .slice A1' n1 c1', .slice A2' n2 c2', .slice A3' n3 c3'] 35)) W3.heap.size WC.heap.size d A1' n1 c1' A2' n2 c2' A3' n3 c3' qs fs ts) := hV.laid
  have hAO := owned_at hV.N.S (by omega)
  obtain ⟨g, rfl, _⟩ := hAO
  have sWC := bc.size
  have hri := L_r.out.inside
  replace L_r := Lib.hid (L_r.out.kept bc L_r.out.inside)
  replace L_a := Lib.hid (L_a.out.kept bc L_a.out.inside)
  replace L_n := Lib.hid (L_n.out.kept bc L_n.out.inside)
  replace B := Lib.hid (B.out.trans (bc.mono B.out.size))
  clear bc
  replace B := Lib.hid (B.out.alloc B.out.size (.cells #[.int .i64 d, .slice (some ⟨g, 0, none⟩) n1 c1', .slice A2' n2 c2', .slice A3' n3 c3'] 35))
  replace L_r := Lib.hid (L_r.out.alloc (.cells #[.int .i64 d, .slice (some ⟨g, 0, none⟩) n1 c1', .slice A2' n2 c2', .slice A3' n3 c3'] 35))
  replace L_n := Lib.hid (L_n.out.alloc (.cells #[.int .i64 d, .slice (some ⟨g, 0, none⟩) n1 c1', .slice A2' n2 c2', .slice A3' n3 c3'] 35))
  have HVQ := Lib.hid hvs
  have HUQ := Lib.hid hus
  have gin := (hV.inB g (Or.inl rfl)).1
  clear hV hvs hus
  go_upto_region 11 with fail
  have sWX0 : WC.heap.size + 1 = (WC.alloc (.cells #[.int .i64 d, .slice (some ⟨g, 0, none⟩) n1 c1', .slice A2' n2 c2', .slice A3' n3 c3'] 35)).heap.size := by simp only [World.size_alloc]
  generalize hWX : (WC.alloc (.cells #[.int .i64 d, .slice (some ⟨g, 0, none⟩) n1 c1', .slice A2' n2 c2', .slice A3' n3 c3'] 35)) = WX at *
  clear hWX
  have oc2 : WX.cell? ⟨WC.heap.size, 1, none⟩ = some (.slice (some ⟨g, 0, none⟩) n1 c1') := SB.out.o.cell 1
  refine wp_region_last 5 (fun w' => w'.cell? ⟨WC.heap.size, 1, none⟩ = some (.slice (some ⟨g, 0, none⟩) n1 c1')) (by kernel_rfl) (oc2) (fun hHeld => ?_)
  apply wpAnyL_take (i := 0)
  · simp only [List.getElem?_toArray, List.getElem?_cons_succ, List.getElem?_cons_zero]; exact rfl
  refine ⟨⟨by kernel_rfl, by kernel_rfl, by kernel_rfl, by kernel_rfl, by kernel_rfl⟩, fun _ _ _ h => h, ?_, hHeld, ?_⟩
  · intro w hSw; (try dsimp only at hSw); go_simp; all_goals (with_reducible rfl)
  (try simp only [Act.put, List.setIfInBounds_toArray, List.set_cons_zero, List.set_cons_succ])
  apply wpAnyL_take (i := 1)
  · simp only [List.getElem?_toArray, List.getElem?_cons_succ, List.getElem?_cons_zero]; exact rfl
  refine ⟨⟨by kernel_rfl, by kernel_rfl, by kernel_rfl, by kernel_rfl, by kernel_rfl⟩, fun _ _ _ h => h, ?_, hHeld, ?_⟩
  · intro w hSw; (try dsimp only at hSw); go_simp; all_goals (with_reducible rfl)
  (try simp only [Act.put, List.setIfInBounds_toArray, List.set_cons_zero, List.set_cons_succ])
  apply wpAnyL_take (i := 2)
  · simp only [List.getElem?_toArray, List.getElem?_cons_succ, List.getElem?_cons_zero]; exact rfl
  refine ⟨⟨by kernel_rfl, by kernel_rfl, by kernel_rfl, by kernel_rfl, by kernel_rfl⟩, fun _ _ _ h => h, ?_, hHeld, ?_⟩
  · intro w hSw; (try dsimp only at hSw); go_simp; all_goals (with_reducible rfl)
  (try simp only [Act.put, List.setIfInBounds_toArray, List.set_cons_zero, List.set_cons_succ])
  apply wpAnyL_one (i := 3)
  · simp only [List.getElem?_toArray, List.getElem?_cons_succ, List.getElem?_cons_zero]; exact rfl
  refine ⟨by kernel_rfl, fun K hK => ?_⟩
  go_simp
  go_at_call 63
  refine (l3Copy_any lv nn rt (w.heap.size + 1) n c d.toNat A es _ L_n.out.drew.inside (L_n.out.drew.cell 0) (L_n.out.drew.cell 1) (L_n.out.drew.cell 2) (L_n.out.drew.cell 3) (HE.out.kept B.out.drew) hn6 (by omega) (by omega) HLEN.out).mono ?_
  rintro e W4 ⟨A', c', qz, rfl, hR4, hvz, b4d⟩
  have b4 := below_drawn b4d
  have hR5 : Hid (Rows4 W4 WX.heap.size n qz (.slice A' n c')) := Rows4.lower2 (q := ⟨lv, nn, rt, A', n, c', qz⟩) hR4 (by (try simp only [size_of_drew]); omega)
  have HVZ := Lib.hid hvz
  have HB4 := Lib.hid b4
  have oc3 : W4.cell? ⟨WC.heap.size, 1, none⟩ = some (.slice (some ⟨g, 0, none⟩) n1 c1') := (SB.out.kept b4).o.cell 1
  obtain ⟨qo, hqo⟩ : ∃ q, qs[k]? = some q := ⟨_, List.getElem?_eq_getElem (by rw [SB.out.V.N.len]; exact hk)⟩
  have HAT := Lib.hid (owned_at (SB.out.kept b4).V.N.S (by omega))
  obtain ⟨g', eg, _, _, hgi, hcells, hfroz⟩ := HAT.out
  injection eg with eg
  injection eg with eg
  subst eg
  have t0 : W4.cell? ⟨g, k * 4, none⟩ = some (.int .i64 qo.lv) := hcells _ _ (nvCells_at (j := 0) hqo rfl)
  have t1 : W4.cell? ⟨g, k * 4 + 1, none⟩ = some (.int .i64 qo.ns) := hcells _ _ (nvCells_at (j := 1) hqo rfl)
  have t2 : W4.cell? ⟨g, k * 4 + 2, none⟩ = some (.int .i64 qo.rt) := hcells _ _ (nvCells_at (j := 2) hqo rfl)
  have t3 : W4.cell? ⟨g, k * 4 + 3, none⟩ = some (.slice qo.A1 qo.n1 qo.c1) := hcells _ _ (nvCells_at (j := 3) hqo rfl)
  have y0 : W4.frozen? ⟨g, k * 4, none⟩ = false := hfroz _
  have y1 : W4.frozen? ⟨g, k * 4 + 1, none⟩ = false := hfroz _
  have y2 : W4.frozen? ⟨g, k * 4 + 2, none⟩ = false := hfroz _
  have y3 : W4.frozen? ⟨g, k * 4 + 3, none⟩ = false := hfroz _
  clear b4d hR4 hvz HAT hcells hfroz hqo b4
  have hS_3 := oc3
  refine hK.out _ _ (fun _ => hS_3) ?_
  clear hK K
  (try simp only [Act.put, List.setIfInBounds_toArray, List.set_cons_zero, List.set_cons_succ])
  apply wpAnyL_take (i := 4)
  · simp only [List.getElem?_toArray, List.getElem?_cons_succ, List.getElem?_cons_zero]; exact rfl
  refine ⟨⟨by kernel_rfl, by kernel_rfl, by kernel_rfl, by kernel_rfl, by kernel_rfl⟩, fun _ _ _ h => h, ?_, hS_3, ?_⟩
  · intro w hSw; (try dsimp only at hSw); go_simp; all_goals (with_reducible rfl)
  (try simp only [Act.put, List.setIfInBounds_toArray, List.set_cons_zero, List.set_cons_succ])
  apply wpAnyL_one (i := 5)
  · simp only [List.getElem?_toArray, List.getElem?_cons_succ, List.getElem?_cons_zero]; exact rfl
  refine ⟨by kernel_rfl, fun K hK => ?_⟩
  go_simp
  refine hK.out _ _ (fun h => absurd rfl h) ?_
  clear hK K
  refine wpAnyL_done (by kernel_rfl) ?_ _
  have S4' := Lib.hid (SB.out.node (q := ⟨lv, nn, rt, A', n, c', qz⟩) hk HB4.out hR5.out hn6 (by omega))
  have T4 : Hid (Turned (fun x => x = g) WX ((((W4.setCell ⟨g, k * 4, none⟩ (.int .i64 lv)).setCell ⟨g, k * 4 + 1, none⟩ (.int .i64 nn)).setCell ⟨g, k * 4 + 2, none⟩ (.int .i64 rt)).setCell ⟨g, k * 4 + 3, none⟩ (.slice A' n c'))) :=
    ((((Turned.of_below (G := fun x => x = g) HB4.out).setCell (a := ⟨g, k * 4, none⟩) rfl _).setCell (a := ⟨g, k * 4 + 1, none⟩) rfl _).setCell (a := ⟨g, k * 4 + 2, none⟩) rfl _).setCell (a := ⟨g, k * 4 + 3, none⟩) rfl _
  clear hS_3 oc3 oc2 t0 t1 t2 t3 y0 y1 y2 y3 hHeld
  generalize hW5 : ((((W4.setCell ⟨g, k * 4, none⟩ (.int .i64 lv)).setCell ⟨g, k * 4 + 1, none⟩ (.int .i64 nn)).setCell ⟨g, k * 4 + 2, none⟩ (.int .i64 rt)).setCell ⟨g, k * 4 + 3, none⟩ (.slice A' n c')) = W5 at *
  clear hW5
  have S4 := S4'
  replace L_r := Lib.hid (T4.out.lies L_r.out (by show ¬ w.heap.size + 1 + 1 = g; omega))
  replace B := Lib.hid (T4.out.below B.out (fun x hx => by subst hx; omega))
  have HVN : Hid ((qs.set k ⟨lv, nn, rt, A', n, c', qz⟩).map NV.val = (ns.map NV.val).set k (lv, nn, rt, es.map EV.val)) := by show _ = _; rw [List.map_set, HVQ.out]; simp only [NV.val, HVZ.out]
  have HR : Hid (_ = ((0 : Int), d, (ns.map NV.val).set k (lv, nn, rt, es.map EV.val), fs, rs.map RV.val, (0 : Int))) := HR0.out
  have o0 : W5.cell? ⟨WC.heap.size, 0, none⟩ = some (.int .i64 d) := S4.out.o.cell 0
  have o1 : W5.cell? ⟨WC.heap.size, 1, none⟩ = some (.slice (some ⟨g, 0, none⟩) n1 c1') := S4.out.o.cell 1
  have o2 : W5.cell? ⟨WC.heap.size, 2, none⟩ = some (.slice A2' n2 c2') := S4.out.o.cell 2
  have o3 : W5.cell? ⟨WC.heap.size, 3, none⟩ = some (.slice A3' n3 c3') := S4.out.o.cell 3
  have z0 : W5.cell? ⟨w.heap.size + 1 + 1, 0, none⟩ = some (.int .i64 0) := L_r.out.cell 0
  have y0 : W5.frozen? ⟨w.heap.size + 1 + 1, 0, none⟩ = false := L_r.out.thawed 0
  have z1 : W5.cell? ⟨w.heap.size + 1 + 1, 1, none⟩ = some (.int .i64 0) := L_r.out.cell 1
  have y1 : W5.frozen? ⟨w.heap.size + 1 + 1, 1, none⟩ = false := L_r.out.thawed 1
  have z2 : W5.cell? ⟨w.heap.size + 1 + 1, 2, none⟩ = some (.slice none 0 0) := L_r.out.cell 2
  have y2 : W5.frozen? ⟨w.heap.size + 1 + 1, 2, none⟩ = false := L_r.out.thawed 2
  have z3 : W5.cell? ⟨w.heap.size + 1 + 1, 3, none⟩ = some (.slice none 0 0) := L_r.out.cell 3
  have y3 : W5.frozen? ⟨w.heap.size + 1 + 1, 3, none⟩ = false := L_r.out.thawed 3
  have z4 : W5.cell? ⟨w.heap.size + 1 + 1, 4, none⟩ = some (.slice none 0 0) := L_r.out.cell 4
  have y4 : W5.frozen? ⟨w.heap.size + 1 + 1, 4, none⟩ = false := L_r.out.thawed 4
  have z5 : W5.cell? ⟨w.heap.size + 1 + 1, 5, none⟩ = some (.int .i64 0) := L_r.out.cell 5
  have y5 : W5.frozen? ⟨w.heap.size + 1 + 1, 5, none⟩ = false := L_r.out.thawed 5
  have HTS : Hid (∀ q ∈ ts, q.n1 ≤ 10) := by
    intro q hq
    obtain ⟨k, hk⟩ := List.getElem?_of_mem hq
    have h1 : q.val ∈ rs.map RV.val := by rw [← HUQ.out]; exact List.mem_map_of_mem hq
    obtain ⟨r, hr, hrv⟩ := List.mem_map.1 h1
    have h2 := HRS.out r hr
    have h3 := (HP.out.R.2.2 r hr).1.1
    have h4 : q.ws = r.ws := congrArg (fun v : RVal => v.2) hrv.symm
    have h5 := (S4.out.V.R.Q q hq).1
    simp only [List.length_map, Nat.mul_one] at h5
    rw [h4] at h5
    omega
  have AR := Lib.hid (S4.out.V)
  go_wp2
  refine bodyPost_ret (v := .agg #[.int .i64 0, .int .i64 d, .slice (some ⟨g, 0, none⟩) n1 c1', .slice A2' n2 c2', .slice A3' n3 c3', .int .i64 0]) (by simp [results, Tryz.results22, go_sem, z0, z1, z2, z3, z4, z5]) rfl ?_
  with_reducible refine SpPost.yes HR.out ?_ HVN.out HUQ.out ?_
  · refine SpA.of (base := W3.heap.size) (c1 := c1') (c2 := c2') (c3 := c3') ?_ (by omega) (by omega) m3 HTS.out (by omega)
    with_reducible (repeat (first | exact AR.out | refine SpV.far ?_ ?_ _))
    all_goals (show w.heap.size + 1 + 1 < _; omega)
  · with_reducible (repeat (first | exact B.out | refine Below.setCell ?_ ?_ _))
    all_goals (show w.heap.size ≤ w.heap.size + 1 + 1; omega)

end Go.Proofs.YtfpmbkfikfdmkabGreat
