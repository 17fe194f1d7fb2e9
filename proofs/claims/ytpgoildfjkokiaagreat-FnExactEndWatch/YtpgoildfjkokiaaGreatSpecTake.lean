/- The walks of spec.l4Take, spec.TakeNode and spec.WriteNode. -/
import Derived.Test.YtpgoildfjkokiaaGreatSpecPost
namespace Go.Proofs.YtpgoildfjkokiaaGreat
open Go.RowKit

theorem owns_set {w : World} {base size n c g i : Nat} {e : TypeId} {xs : List Value} (h : w.ownsRow base e size (.slice (some ⟨g, 0, none⟩) n c) n xs) (u : Value) : (w.setCell ⟨g, i, none⟩ u).ownsRow base e size (.slice (some ⟨g, 0, none⟩) n c) n (xs.set i u) := by
  obtain ⟨hl, h1⟩ := h
  refine ⟨by rw [List.length_set]; exact hl, ?_⟩
  rcases h1 with ⟨e1, _⟩ | ⟨g', cap, cur, e1, h2, h3, h4, h5, h6, h7⟩
  · injection e1 with e1; cases e1
  · injection e1 with e1 e2 e3
    injection e1 with e1
    injection e1 with e1
    subst e1 e3
    refine Or.inr ⟨g, c, cur.setIfInBounds i u, rfl, h2, heap_setCell_same w g i cur e u h3, h4, h5, by simpa using h6, ?_⟩
    rw [← h7, Array.toList_setIfInBounds, List.take_set]
theorem nv_set4 : ∀ {ns : List NV} {i : Nat} {q : NV}, i < ns.length → ((((ns.flatMap NV.cells).set (i * 4) (.int .i64 q.lv)).set (i * 4 + 1) (.int .i64 q.ns)).set (i * 4 + 2) (.int .i64 q.rt)).set (i * 4 + 3) (.slice q.A1 q.n1 q.c1) = (ns.set i q).flatMap NV.cells
  | [], i, q, h => by simp at h
  | a :: t, 0, q, _ => by simp [NV.cells]
  | a :: t, i + 1, q, h => by
    have ih := nv_set4 (ns := t) (i := i) (q := q) (by simpa using h)
    have hl : a.cells.length = 4 := rfl
    rw [List.set_cons_succ, List.flatMap_cons, List.flatMap_cons, ← ih]
    rw [List.set_append_right (h := by rw [hl]; omega), List.set_append_right (h := by rw [hl]; omega), List.set_append_right (h := by rw [hl]; omega), List.set_append_right (h := by rw [hl]; omega), hl, show (i + 1) * 4 - 4 = i * 4 by omega, show (i + 1) * 4 + 1 - 4 = i * 4 + 1 by omega, show (i + 1) * 4 + 2 - 4 = i * 4 + 2 by omega, show (i + 1) * 4 + 3 - 4 = i * 4 + 3 by omega]
theorem nodesB_set {ns : List NV} {i : Nat} {q : NV} {b : Nat} (h : b ∈ nodesB (ns.set i q)) : b ∈ nodesB ns ∨ b ∈ nodeB q := by
  obtain ⟨p, hp, hb⟩ := List.mem_flatMap.1 h
  rcases List.mem_or_eq_of_mem_set hp with hp | rfl
  · exact Or.inl (List.mem_flatMap.2 ⟨p, hp, hb⟩)
  · exact Or.inr hb
section
variable {w W : World} {base B n1 c1 n2 c2 n3 c3 g i : Nat} {d : Int} {A1 A2 A3 : Option Addr} {ns : List NV} {fs : List Int} {rs : List RV} {q : NV}
/-- A node is written into its place. -/
theorem SpAr.node (h : SpAr w base B d (some ⟨g, 0, none⟩) n1 c1 A2 n2 c2 A3 n3 c3 ns fs rs) (hi : i < n1) (hb : Below w.heap.size w W) (hq : Rows4 W w.heap.size q.n1 q.es (.slice q.A1 q.n1 q.c1)) (hq6 : q.n1 ≤ 6) (hlo : base ≤ w.heap.size) :
    SpAr ((((W.setCell ⟨g, i * 4, none⟩ (.int .i64 q.lv)).setCell ⟨g, i * 4 + 1, none⟩ (.int .i64 q.ns)).setCell ⟨g, i * 4 + 2, none⟩ (.int .i64 q.rt)).setCell ⟨g, i * 4 + 3, none⟩ (.slice q.A1 q.n1 q.c1)) base B d (some ⟨g, 0, none⟩) n1 c1 A2 n2 c2 A3 n3 c3 (ns.set i q) fs rs := by
  have h' := h.kept hb
  have hlen := h.V.N.len
  have old := h.V.inB
  have own1 : (Value.slice (some (⟨g, 0, none⟩ : Addr)) n1 c1).ownBlock = some g := rfl
  have gin := old g (Or.inl own1)
  have hBi := h.o.inside
  have hs := hb.size
  have new := hq.inB
  have gX : g ∉ nodesB ns := h.V.N.X g own1
  have gB : g ≠ B := h.x g (Or.inl own1)
  have keep : ∀ b, b ≠ g → ((((W.setCell ⟨g, i * 4, none⟩ (.int .i64 q.lv)).setCell ⟨g, i * 4 + 1, none⟩ (.int .i64 q.ns)).setCell ⟨g, i * 4 + 2, none⟩ (.int .i64 q.rt)).setCell ⟨g, i * 4 + 3, none⟩ (.slice q.A1 q.n1 q.c1)).heap[b]? = W.heap[b]? := fun b hne =>
    (((heap_setCell_other _ ⟨g, i * 4 + 3, none⟩ b _ hne).trans (heap_setCell_other _ ⟨g, i * 4 + 2, none⟩ b _ hne)).trans (heap_setCell_other _ ⟨g, i * 4 + 1, none⟩ b _ hne)).trans (heap_setCell_other _ ⟨g, i * 4, none⟩ b _ hne)
  have hsz : W.heap.size ≤ ((((W.setCell ⟨g, i * 4, none⟩ (.int .i64 q.lv)).setCell ⟨g, i * 4 + 1, none⟩ (.int .i64 q.ns)).setCell ⟨g, i * 4 + 2, none⟩ (.int .i64 q.rt)).setCell ⟨g, i * 4 + 3, none⟩ (.slice q.A1 q.n1 q.c1)).heap.size := by simp only [size_of_setCell]; exact Nat.le_refl _
  have gnew : ∀ b ∈ nodeB q, b ≠ g := fun b hb' => by have := (new b hb').1; omega
  have gold : ∀ b ∈ nodesB ns, b ≠ g := fun b hb' e => gX (e ▸ hb')
  refine ⟨(keep B (fun e => gB e.symm)).trans h'.o, ⟨⟨?_, fun p hp => ?_, fun b e hm => ?_⟩, ?_, ?_, fun b e => ⟨(h.V.d b e).1, fun hm => ?_⟩, fun b e => ⟨(h.V.e b e).1, (h.V.e b e).2.1, fun hm => ?_⟩⟩, fun b e => ?_⟩
  · rw [← nv_set4 (by omega)]
    exact owns_set (owns_set (owns_set (owns_set h'.V.N.S _) _) _) _
  · rcases List.mem_or_eq_of_mem_set hp with hp' | rfl
    · exact ⟨(h'.V.N.Q p hp').1.others hsz (fun b hb' => keep b (gold b (List.mem_flatMap.2 ⟨p, hp', hb'⟩))), (h.V.N.Q p hp').2⟩
    · exact ⟨(hq.lower2 hlo).others hsz (fun b hb' => keep b (gnew b hb')), hq6⟩
  · have e' : g = b := by simpa [Value.ownBlock] using e
    subst e'
    rcases nodesB_set hm with hm | hm
    · exact gX hm
    · exact gnew g hm rfl
  · exact ownsRow_others h'.V.F (fun b e => keep b (fun e2 => (h.V.d b e).1 (by rw [own1, e2])))
  · exact h'.V.R.others (fun b e => keep b (fun e2 => (h.V.e b (Or.inl e)).1 (by rw [own1, e2]))) (fun b e => keep b (fun e2 => (h.V.e b (Or.inr e)).1 (by rw [own1, e2])))
  · rcases nodesB_set hm with hm | hm
    · exact (h.V.d b e).2 hm
    · have := (new b hm).1; have := (old b (Or.inr (Or.inr (Or.inl e)))).2; omega
  · rcases nodesB_set hm with hm | hm
    · exact (h.V.e b e).2.2 hm
    · have := (new b hm).1; have := (old b (Or.inr (Or.inr (Or.inr e)))).2; omega
  · rcases e with e | e | e
    · exact h.x b (Or.inl e)
    · rcases nodesB_set e with e | e
      · exact h.x b (Or.inr (Or.inl e))
      · have := (new b e).1; omega
    · exact h.x b (Or.inr (Or.inr e))
/-- The free places are another list. -/
theorem SpAr.free {A2' : Option Addr} {n2' c2' : Nat} {fs' : List Int} (h : SpAr w base B d A1 n1 c1 A2 n2 c2 A3 n3 c3 ns fs rs) (hb : Below w.heap.size w W) (hF : W.ownsRow w.heap.size 2 1 (.slice A2' n2' c2') n2' (fs'.map (Value.int .i64))) (hlo : base ≤ w.heap.size) :
    SpAr (W.setCell ⟨B, 2, none⟩ (.slice A2' n2' c2')) base B d A1 n1 c1 A2' n2' c2' A3 n3 c3 ns fs' rs := by
  have h' := h.kept hb
  have old := h.V.inB
  have hBi := h.o.inside
  have new := ownsRow_block2 hF
  have keep : ∀ b, b ≠ B → (W.setCell ⟨B, 2, none⟩ (.slice A2' n2' c2')).heap[b]? = W.heap[b]? := fun b hne => heap_setCell_other W ⟨B, 2, none⟩ b _ hne
  have hsz : W.heap.size ≤ (W.setCell ⟨B, 2, none⟩ (.slice A2' n2' c2')).heap.size := Nat.le_of_eq (size_of_setCell _ _ _).symm
  refine ⟨Lies.set (w := W) h'.o 2 _, ⟨?_, ?_, ?_, fun b e => ⟨fun e2 => ?_, fun e2 => ?_⟩, fun b e => ⟨(h.V.e b e).1, fun e2 => ?_, (h.V.e b e).2.2⟩⟩, fun b e => ?_⟩
  · exact h'.V.N.others hsz (fun b e => keep b (h.x b (Or.inl e))) (fun b e => keep b (h.x b (Or.inr (Or.inl e))))
  · exact ownsRow_lower (ownsRow_others hF (fun b e => keep b (by have := (new b e).1; omega))) hlo
  · exact h'.V.R.others (fun b e => keep b (h.x b (Or.inr (Or.inr (Or.inr (Or.inl e)))))) (fun b e => keep b (h.x b (Or.inr (Or.inr (Or.inr (Or.inr e))))))
  · have := (new b e).1; have := (old b (Or.inl e2)).2; omega
  · have := (new b e).1; have := (old b (Or.inr (Or.inl e2))).2; omega
  · have := (new b e2).1; have := (old b (Or.inr (Or.inr (Or.inr e)))).2; omega
  · rcases e with e | e | e | e
    · exact h.x b (Or.inl e)
    · exact h.x b (Or.inr (Or.inl e))
    · have := (new b e).1; omega
    · exact h.x b (Or.inr (Or.inr (Or.inr e)))
/-- An arena that was copied is laid into a block of its own. -/
theorem SpV.laid (h : SpV w base A1 n1 c1 A2 n2 c2 A3 n3 c3 ns fs rs) : SpAr (w.alloc (.cells #[.int .i64 d, .slice A1 n1 c1, .slice A2 n2 c2, .slice A3 n3 c3] 26)) base w.heap.size d A1 n1 c1 A2 n2 c2 A3 n3 c3 ns fs rs :=
  ⟨Lies.new _ _ _, h.kept (below_alloc _ _), fun b e => by have := (h.inB b e).2; omega⟩
end

set_option maxRecDepth 100000 in
set_option maxHeartbeats 6400000 in
theorem l4Take_any (lv nn rt d : Int) (base B g n1 c1 n2 c2 n3 c3 n c dd i : Nat) (A2 A3 A : Option Addr) (ns : List NV) (t : List Int) (rs : List RV) (es : List EV) (w0 w : World) (h : SpAr w base B d (some ⟨g, 0, none⟩) n1 c1 A2 n2 c2 A3 n3 c3 ns ((i : Int) :: t) rs) (hi : i < n1) (hn1 : n1 ≤ 40) (hn2 : n2 ≤ 1048576) (he : Entries w0 A n es) (hb0 : Below w0.heap.size w0 w) (h00 : w0.heap.size ≤ base) (h0B : w0.heap.size ≤ B) (hn6 : n ≤ 6) (hd : 0 < dd) (hd3 : dd ≤ 3) (hl : LensE dd (es.map EV.val)) (hlo : base ≤ w.heap.size) :
    Calls Tryz.prog 72 #[.pointer (some ⟨B, 0, none⟩), .agg #[.int .i64 lv, .int .i64 nn, .int .i64 rt, .slice A n c]] w fun e w' => ∃ A2' c2' q, e = .returned (.int .i64 (i : Int)) ∧ SpAr w' base B d (some ⟨g, 0, none⟩) n1 c1 A2' (n2 - 1) c2' A3 n3 c3 (ns.set i q) t rs ∧ q.val = (lv, nn, rt, es.map EV.val) ∧ Turned (fun x => x = B ∨ x = g) w w' := by
  have HE0 := Lib.hid he
  have HB0 := Lib.hid hb0
  have HLE := Lib.hid hl
  obtain ⟨gf, gi0, gi1⟩ : ∃ x, x = g ∧ base ≤ g := ⟨g, rfl, (h.V.inB g (Or.inl rfl)).1⟩
  have gsz := (h.V.inB g (Or.inl rfl)).2
  have hBi := h.o.inside
  have hn2p : 0 < n2 := by have := h.V.F.1; simp at this; omega
  obtain ⟨f, hA2, fown, hf1, hf2, hfc, hff⟩ := owned_at h.V.F hn2p
  subst hA2
  have hcap : n2 ≤ c2 ∧ c2 ≤ maxLen := by
    rcases h.V.F.2 with ⟨e1, _⟩ | ⟨g', cap, cur, e1, h2, h3, h4, h5, _⟩
    · injection e1 with e1; cases e1
    · injection e1 with _ _ e3; subst e3; exact ⟨h4, h5⟩
  have hft : Hid (Ints w 0 (some ⟨f, 1, none⟩) (n2 - 1) t) := by
    have hl1 : t.length = n2 - 1 := by have := h.V.F.1; simp at this; omega
    refine ⟨hl1, fun h0 => ⟨f, 1, rfl, Nat.zero_le _, hf2, fun k x hx => hfc _ _ ?_⟩⟩
    rw [Nat.add_comm, List.getElem?_map, List.getElem?_cons_succ, hx]; rfl
  have hl1 : t.length = n2 - 1 := by have := h.V.F.1; simp at this; omega
  have f0 : w.cell? ⟨f, 0, none⟩ = some (.int .i64 (i : Int)) := hfc 0 _ rfl
  have S1 := Lib.hid (h.alloc (.cells #[.int .i64 lv, .int .i64 nn, .int .i64 rt, .slice A n c] 42))
  have B1 := Lib.hid (below_alloc w (.cells #[.int .i64 lv, .int .i64 nn, .int .i64 rt, .slice A n c] 42))
  have L_n := Lib.hid (Lies.new w 42 #[.int .i64 lv, .int .i64 nn, .int .i64 rt, .slice A n c])
  have HT1 : Hid (Ints (w.alloc (.cells #[.int .i64 lv, .int .i64 nn, .int .i64 rt, .slice A n c] 42)) 0 (some ⟨f, 1, none⟩) (n2 - 1) t) := hft.out.kept B1.out
  have oc2' : (w.alloc (.cells #[.int .i64 lv, .int .i64 nn, .int .i64 rt, .slice A n c] 42)).cell? ⟨B, 2, none⟩ = some (.slice (some ⟨f, 0, none⟩) n2 c2) := S1.out.o.cell 2
  have f0' : (w.alloc (.cells #[.int .i64 lv, .int .i64 nn, .int .i64 rt, .slice A n c] 42)).cell? ⟨f, 0, none⟩ = some (.int .i64 (i : Int)) := (B1.out.cell (p := ⟨f, 0, none⟩) hf2).trans f0
  clear h he hb0 hl hfc hff f0 hft
  have h12 : (1 : Int) ≤ (n2 : Int) := by omega
  have hc2i : (n2 : Int) ≤ (c2 : Int) := by omega
  go_enter Tryz.func72, Tryz.ntmps72
  by_cases hc1 : c2 = 1
  · subst hc1
    obtain rfl : n2 = 1 := by omega
    obtain rfl : t = [] := List.eq_nil_of_length_eq_zero (by omega)
    go_wp2_with fail
    refine (l1Ints_all 0 0 0 (some ⟨f, 0, none⟩) [] _ (Ints.empty _ _ _) (by omega)).mono ?_
    rintro e Wa ⟨A2', c2', rfl, hF, ba⟩
    have SA := S1.out.kept ba
    have sa := ba.size
    simp only [World.size_alloc] at sa
    have S2' := Lib.hid (S1.out.free ba hF (by simp only [World.size_alloc]; omega))
    have q2 : Wa.cell? ⟨B, 2, none⟩ = some (.slice (some ⟨f, 0, none⟩) 1 1) := SA.o.cell 2
    have q3 : Wa.frozen? ⟨B, 2, none⟩ = false := SA.o.thawed 2
    have Ba := B1.out.trans (ba.mono B1.out.size)
    have T2' : Hid (Turned (fun x => x = B ∨ x = g) w (Wa.setCell ⟨B, 2, none⟩ (.slice A2' (0) c2'))) := (Turned.of_below Ba).setCell (a := ⟨B, 2, none⟩) (Or.inl rfl) _
    have L2' := Lib.hid ((L_n.out.kept ba L_n.out.inside).far (a := ⟨B, 2, none⟩) (by show w.heap.size ≠ B; omega) (.slice A2' (0) c2'))
    clear SA hF oc2' f0' h12 hc2i
    go_upto_region 3 with fail
    generalize hWW : (Wa.setCell ⟨B, 2, none⟩ (.slice A2' (0) c2')) = W2 at *
    have sW2 : W2.heap.size = Wa.heap.size := by rw [← hWW]; exact size_of_setCell _ _ _
    clear hWW q2 q3
    have S2 := S2'
    have L2 := L2'
    have B2 := Lib.hid (T2'.out.below HB0.out (fun x hx => by rcases hx with rfl | rfl <;> omega))
    have HE := HE0
    clear S2' L2'
    have oc2 : W2.cell? ⟨B, 1, none⟩ = some (.slice (some ⟨g, 0, none⟩) n1 c1) := S2.out.o.cell 1
    have hii : (i : Int) < (n1 : Int) := by omega
    refine wp_region_last 7 (fun w' => w'.cell? ⟨B, 1, none⟩ = some (.slice (some ⟨g, 0, none⟩) n1 c1)) (by kernel_rfl) (oc2) (fun hHeld => ?_)
    apply wpAnyL_take (i := 0)
    · simp only [List.getElem?_toArray, List.getElem?_cons_succ, List.getElem?_cons_zero]; exact rfl
    refine ⟨⟨by kernel_rfl, by kernel_rfl, by kernel_rfl, by kernel_rfl, by kernel_rfl⟩, fun _ _ _ h => h, ?_, hHeld, ?_⟩
    · intro w hSw; (try dsimp only at hSw); go_simp; all_goals (with_reducible rfl)
    (try simp only [Act.put, List.setIfInBounds_toArray, List.set_cons_zero, List.set_cons_succ])
    apply wpAnyL_take (i := 1)
    · simp only [List.getElem?_toArray, List.getElem?_cons_succ, List.getElem?_cons_zero]; exact rfl
    refine ⟨⟨by kernel_rfl, by kernel_rfl, by kernel_rfl, by kernel_rfl, by kernel_rfl⟩, fun _ _ _ h => h, ?_, hHeld, ?_⟩
    · intro w hSw; (try dsimp only at hSw); go_simp; all_goals (with_reducible rfl)
    (try simp only [Act.put, List.setIfInBounds_toArray, List.set_cons_zero, List.set_cons_succ])
    apply wpAnyL_take (i := 2)
    · simp only [List.getElem?_toArray, List.getElem?_cons_succ, List.getElem?_cons_zero]; exact rfl
    refine ⟨⟨by kernel_rfl, by kernel_rfl, by kernel_rfl, by kernel_rfl, by kernel_rfl⟩, fun _ _ _ h => h, ?_, hHeld, ?_⟩
    · intro w hSw; (try dsimp only at hSw); go_simp; all_goals (with_reducible rfl)
    (try simp only [Act.put, List.setIfInBounds_toArray, List.set_cons_zero, List.set_cons_succ])
    apply wpAnyL_take (i := 3)
    · simp only [List.getElem?_toArray, List.getElem?_cons_succ, List.getElem?_cons_zero]; exact rfl
    refine ⟨⟨by kernel_rfl, by kernel_rfl, by kernel_rfl, by kernel_rfl, by kernel_rfl⟩, fun _ _ _ h => h, ?_, hHeld, ?_⟩
    · intro w hSw; (try dsimp only at hSw); go_simp; all_goals (with_reducible rfl)
    (try simp only [Act.put, List.setIfInBounds_toArray, List.set_cons_zero, List.set_cons_succ])
    apply wpAnyL_take (i := 4)
    · simp only [List.getElem?_toArray, List.getElem?_cons_succ, List.getElem?_cons_zero]; exact rfl
    refine ⟨⟨by kernel_rfl, by kernel_rfl, by kernel_rfl, by kernel_rfl, by kernel_rfl⟩, fun _ _ _ h => h, ?_, hHeld, ?_⟩
    · intro w hSw; (try dsimp only at hSw); go_simp; all_goals (with_reducible rfl)
    (try simp only [Act.put, List.setIfInBounds_toArray, List.set_cons_zero, List.set_cons_succ])
    apply wpAnyL_one (i := 5)
    · simp only [List.getElem?_toArray, List.getElem?_cons_succ, List.getElem?_cons_zero]; exact rfl
    refine ⟨by kernel_rfl, fun K hK => ?_⟩
    go_simp
    go_at_call 46
    refine (l3Copy_any lv nn rt w.heap.size n c dd A es _ L2.out.drew.inside (L2.out.drew.cell 0) (L2.out.drew.cell 1) (L2.out.drew.cell 2) (L2.out.drew.cell 3) (HE.out.kept B2.out.drew) hn6 hd hd3 HLE.out).mono ?_
    rintro e W3 ⟨A', c', qs, rfl, hR4, hvs, b3d⟩
    have b3 := below_drawn b3d
    have hR5 : Hid (Rows4 W3 W2.heap.size n qs (.slice A' n c')) := Rows4.lower2 (q := ⟨lv, nn, rt, A', n, c', qs⟩) hR4 (by (try simp only [size_of_drew]); omega)
    have HVS := Lib.hid hvs
    have HB3 := Lib.hid b3
    have oc3 : W3.cell? ⟨B, 1, none⟩ = some (.slice (some ⟨g, 0, none⟩) n1 c1) := (S2.out.kept b3).o.cell 1
    obtain ⟨qo, hqo⟩ : ∃ q, ns[i]? = some q := ⟨_, List.getElem?_eq_getElem (by rw [S2.out.V.N.len]; exact hi)⟩
    have HAT := Lib.hid (owned_at (S2.out.kept b3).V.N.S (by omega))
    obtain ⟨g', eg, _, _, hgi, hcells, hfroz⟩ := HAT.out
    injection eg with eg
    injection eg with eg
    subst eg
    have t0 : W3.cell? ⟨g, i * 4, none⟩ = some (.int .i64 qo.lv) := hcells _ _ (nvCells_at (j := 0) hqo rfl)
    have t1 : W3.cell? ⟨g, i * 4 + 1, none⟩ = some (.int .i64 qo.ns) := hcells _ _ (nvCells_at (j := 1) hqo rfl)
    have t2 : W3.cell? ⟨g, i * 4 + 2, none⟩ = some (.int .i64 qo.rt) := hcells _ _ (nvCells_at (j := 2) hqo rfl)
    have t3 : W3.cell? ⟨g, i * 4 + 3, none⟩ = some (.slice qo.A1 qo.n1 qo.c1) := hcells _ _ (nvCells_at (j := 3) hqo rfl)
    have y0 : W3.frozen? ⟨g, i * 4, none⟩ = false := hfroz _
    have y1 : W3.frozen? ⟨g, i * 4 + 1, none⟩ = false := hfroz _
    have y2 : W3.frozen? ⟨g, i * 4 + 2, none⟩ = false := hfroz _
    have y3 : W3.frozen? ⟨g, i * 4 + 3, none⟩ = false := hfroz _
    clear b3d hR4 hvs HAT hcells hfroz hqo b3
    have hS_5 := oc3
    refine hK.out _ _ (fun _ => hS_5) ?_
    clear hK K
    (try simp only [Act.put, List.setIfInBounds_toArray, List.set_cons_zero, List.set_cons_succ])
    apply wpAnyL_take (i := 6)
    · simp only [List.getElem?_toArray, List.getElem?_cons_succ, List.getElem?_cons_zero]; exact rfl
    refine ⟨⟨by kernel_rfl, by kernel_rfl, by kernel_rfl, by kernel_rfl, by kernel_rfl⟩, fun _ _ _ h => h, ?_, hS_5, ?_⟩
    · intro w hSw; (try dsimp only at hSw); go_simp; all_goals (with_reducible rfl)
    (try simp only [Act.put, List.setIfInBounds_toArray, List.set_cons_zero, List.set_cons_succ])
    apply wpAnyL_one (i := 7)
    · simp only [List.getElem?_toArray, List.getElem?_cons_succ, List.getElem?_cons_zero]; exact rfl
    refine ⟨by kernel_rfl, fun K hK => ?_⟩
    go_simp
    refine hK.out _ _ (fun h => absurd rfl h) ?_
    clear hK K
    refine wpAnyL_done (by kernel_rfl) ?_ _
    have S3 := Lib.hid (S2.out.node (q := ⟨lv, nn, rt, A', n, c', qs⟩) hi HB3.out hR5.out hn6 (by have := T2'.out.2.1; omega))
    have T3 : Hid (Turned (fun x => x = B ∨ x = g) w ((((W3.setCell ⟨g, i * 4, none⟩ (.int .i64 lv)).setCell ⟨g, i * 4 + 1, none⟩ (.int .i64 nn)).setCell ⟨g, i * 4 + 2, none⟩ (.int .i64 rt)).setCell ⟨g, i * 4 + 3, none⟩ (.slice A' n c'))) :=
      ((((T2'.out.trans (Turned.of_below HB3.out)).setCell (a := ⟨g, i * 4, none⟩) (Or.inr rfl) _).setCell (a := ⟨g, i * 4 + 1, none⟩) (Or.inr rfl) _).setCell (a := ⟨g, i * 4 + 2, none⟩) (Or.inr rfl) _).setCell (a := ⟨g, i * 4 + 3, none⟩) (Or.inr rfl) _
    clear hS_5 oc3 oc2 t0 t1 t2 t3 y0 y1 y2 y3 hHeld
    go_wp2
    go_ret
    exact ⟨rfl, A2', c2', ⟨lv, nn, rt, A', n, c', qs⟩, S3.out, by show (_, _, _, _) = _; rw [HVS.out], T3.out⟩
  · have hc2 : ¬ ((c2 : Int) = 1) := by omega
    go_wp2_with fail
    refine (l1Ints_all (n2 - 1) (c2 - 1) 0 (some ⟨f, 1, none⟩) t _ HT1.out (by omega)).mono ?_
    rintro e Wa ⟨A2', c2', rfl, hF, ba⟩
    have SA := S1.out.kept ba
    have sa := ba.size
    simp only [World.size_alloc] at sa
    have S2' := Lib.hid (S1.out.free ba hF (by simp only [World.size_alloc]; omega))
    have q2 : Wa.cell? ⟨B, 2, none⟩ = some (.slice (some ⟨f, 0, none⟩) n2 c2) := SA.o.cell 2
    have q3 : Wa.frozen? ⟨B, 2, none⟩ = false := SA.o.thawed 2
    have Ba := B1.out.trans (ba.mono B1.out.size)
    have T2' : Hid (Turned (fun x => x = B ∨ x = g) w (Wa.setCell ⟨B, 2, none⟩ (.slice A2' ((n2 - 1)) c2'))) := (Turned.of_below Ba).setCell (a := ⟨B, 2, none⟩) (Or.inl rfl) _
    have L2' := Lib.hid ((L_n.out.kept ba L_n.out.inside).far (a := ⟨B, 2, none⟩) (by show w.heap.size ≠ B; omega) (.slice A2' ((n2 - 1)) c2'))
    clear SA hF oc2' f0' h12 hc2i
    go_upto_region 3 with fail
    generalize hWW : (Wa.setCell ⟨B, 2, none⟩ (.slice A2' ((n2 - 1)) c2')) = W2 at *
    have sW2 : W2.heap.size = Wa.heap.size := by rw [← hWW]; exact size_of_setCell _ _ _
    clear hWW q2 q3
    have S2 := S2'
    have L2 := L2'
    have B2 := Lib.hid (T2'.out.below HB0.out (fun x hx => by rcases hx with rfl | rfl <;> omega))
    have HE := HE0
    clear S2' L2'
    have oc2 : W2.cell? ⟨B, 1, none⟩ = some (.slice (some ⟨g, 0, none⟩) n1 c1) := S2.out.o.cell 1
    have hii : (i : Int) < (n1 : Int) := by omega
    refine wp_region_last 7 (fun w' => w'.cell? ⟨B, 1, none⟩ = some (.slice (some ⟨g, 0, none⟩) n1 c1)) (by kernel_rfl) (oc2) (fun hHeld => ?_)
    apply wpAnyL_take (i := 0)
    · simp only [List.getElem?_toArray, List.getElem?_cons_succ, List.getElem?_cons_zero]; exact rfl
    refine ⟨⟨by kernel_rfl, by kernel_rfl, by kernel_rfl, by kernel_rfl, by kernel_rfl⟩, fun _ _ _ h => h, ?_, hHeld, ?_⟩
    · intro w hSw; (try dsimp only at hSw); go_simp; all_goals (with_reducible rfl)
    (try simp only [Act.put, List.setIfInBounds_toArray, List.set_cons_zero, List.set_cons_succ])
    apply wpAnyL_take (i := 1)
    · simp only [List.getElem?_toArray, List.getElem?_cons_succ, List.getElem?_cons_zero]; exact rfl
    refine ⟨⟨by kernel_rfl, by kernel_rfl, by kernel_rfl, by kernel_rfl, by kernel_rfl⟩, fun _ _ _ h => h, ?_, hHeld, ?_⟩
    · intro w hSw; (try dsimp only at hSw); go_simp; all_goals (with_reducible rfl)
    (try simp only [Act.put, List.setIfInBounds_toArray, List.set_cons_zero, List.set_cons_succ])
    apply wpAnyL_take (i := 2)
    · simp only [List.getElem?_toArray, List.getElem?_cons_succ, List.getElem?_cons_zero]; exact rfl
    refine ⟨⟨by kernel_rfl, by kernel_rfl, by kernel_rfl, by kernel_rfl, by kernel_rfl⟩, fun _ _ _ h => h, ?_, hHeld, ?_⟩
    · intro w hSw; (try dsimp only at hSw); go_simp; all_goals (with_reducible rfl)
    (try simp only [Act.put, List.setIfInBounds_toArray, List.set_cons_zero, List.set_cons_succ])
    apply wpAnyL_take (i := 3)
    · simp only [List.getElem?_toArray, List.getElem?_cons_succ, List.getElem?_cons_zero]; exact rfl
    refine ⟨⟨by kernel_rfl, by kernel_rfl, by kernel_rfl, by kernel_rfl, by kernel_rfl⟩, fun _ _ _ h => h, ?_, hHeld, ?_⟩
    · intro w hSw; (try dsimp only at hSw); go_simp; all_goals (with_reducible rfl)
    (try simp only [Act.put, List.setIfInBounds_toArray, List.set_cons_zero, List.set_cons_succ])
    apply wpAnyL_take (i := 4)
    · simp only [List.getElem?_toArray, List.getElem?_cons_succ, List.getElem?_cons_zero]; exact rfl
    refine ⟨⟨by kernel_rfl, by kernel_rfl, by kernel_rfl, by kernel_rfl, by kernel_rfl⟩, fun _ _ _ h => h, ?_, hHeld, ?_⟩
    · intro w hSw; (try dsimp only at hSw); go_simp; all_goals (with_reducible rfl)
    (try simp only [Act.put, List.setIfInBounds_toArray, List.set_cons_zero, List.set_cons_succ])
    apply wpAnyL_one (i := 5)
    · simp only [List.getElem?_toArray, List.getElem?_cons_succ, List.getElem?_cons_zero]; exact rfl
    refine ⟨by kernel_rfl, fun K hK => ?_⟩
    go_simp
    go_at_call 46
    refine (l3Copy_any lv nn rt w.heap.size n c dd A es _ L2.out.drew.inside (L2.out.drew.cell 0) (L2.out.drew.cell 1) (L2.out.drew.cell 2) (L2.out.drew.cell 3) (HE.out.kept B2.out.drew) hn6 hd hd3 HLE.out).mono ?_
    rintro e W3 ⟨A', c', qs, rfl, hR4, hvs, b3d⟩
    have b3 := below_drawn b3d
    have hR5 : Hid (Rows4 W3 W2.heap.size n qs (.slice A' n c')) := Rows4.lower2 (q := ⟨lv, nn, rt, A', n, c', qs⟩) hR4 (by (try simp only [size_of_drew]); omega)
    have HVS := Lib.hid hvs
    have HB3 := Lib.hid b3
    have oc3 : W3.cell? ⟨B, 1, none⟩ = some (.slice (some ⟨g, 0, none⟩) n1 c1) := (S2.out.kept b3).o.cell 1
    obtain ⟨qo, hqo⟩ : ∃ q, ns[i]? = some q := ⟨_, List.getElem?_eq_getElem (by rw [S2.out.V.N.len]; exact hi)⟩
    have HAT := Lib.hid (owned_at (S2.out.kept b3).V.N.S (by omega))
    obtain ⟨g', eg, _, _, hgi, hcells, hfroz⟩ := HAT.out
    injection eg with eg
    injection eg with eg
    subst eg
    have t0 : W3.cell? ⟨g, i * 4, none⟩ = some (.int .i64 qo.lv) := hcells _ _ (nvCells_at (j := 0) hqo rfl)
    have t1 : W3.cell? ⟨g, i * 4 + 1, none⟩ = some (.int .i64 qo.ns) := hcells _ _ (nvCells_at (j := 1) hqo rfl)
    have t2 : W3.cell? ⟨g, i * 4 + 2, none⟩ = some (.int .i64 qo.rt) := hcells _ _ (nvCells_at (j := 2) hqo rfl)
    have t3 : W3.cell? ⟨g, i * 4 + 3, none⟩ = some (.slice qo.A1 qo.n1 qo.c1) := hcells _ _ (nvCells_at (j := 3) hqo rfl)
    have y0 : W3.frozen? ⟨g, i * 4, none⟩ = false := hfroz _
    have y1 : W3.frozen? ⟨g, i * 4 + 1, none⟩ = false := hfroz _
    have y2 : W3.frozen? ⟨g, i * 4 + 2, none⟩ = false := hfroz _
    have y3 : W3.frozen? ⟨g, i * 4 + 3, none⟩ = false := hfroz _
    clear b3d hR4 hvs HAT hcells hfroz hqo b3
    have hS_5 := oc3
    refine hK.out _ _ (fun _ => hS_5) ?_
    clear hK K
    (try simp only [Act.put, List.setIfInBounds_toArray, List.set_cons_zero, List.set_cons_succ])
    apply wpAnyL_take (i := 6)
    · simp only [List.getElem?_toArray, List.getElem?_cons_succ, List.getElem?_cons_zero]; exact rfl
    refine ⟨⟨by kernel_rfl, by kernel_rfl, by kernel_rfl, by kernel_rfl, by kernel_rfl⟩, fun _ _ _ h => h, ?_, hS_5, ?_⟩
    · intro w hSw; (try dsimp only at hSw); go_simp; all_goals (with_reducible rfl)
    (try simp only [Act.put, List.setIfInBounds_toArray, List.set_cons_zero, List.set_cons_succ])
    apply wpAnyL_one (i := 7)
    · simp only [List.getElem?_toArray, List.getElem?_cons_succ, List.getElem?_cons_zero]; exact rfl
    refine ⟨by kernel_rfl, fun K hK => ?_⟩
    go_simp
    refine hK.out _ _ (fun h => absurd rfl h) ?_
    clear hK K
    refine wpAnyL_done (by kernel_rfl) ?_ _
    have S3 := Lib.hid (S2.out.node (q := ⟨lv, nn, rt, A', n, c', qs⟩) hi HB3.out hR5.out hn6 (by have := T2'.out.2.1; omega))
    have T3 : Hid (Turned (fun x => x = B ∨ x = g) w ((((W3.setCell ⟨g, i * 4, none⟩ (.int .i64 lv)).setCell ⟨g, i * 4 + 1, none⟩ (.int .i64 nn)).setCell ⟨g, i * 4 + 2, none⟩ (.int .i64 rt)).setCell ⟨g, i * 4 + 3, none⟩ (.slice A' n c'))) :=
      ((((T2'.out.trans (Turned.of_below HB3.out)).setCell (a := ⟨g, i * 4, none⟩) (Or.inr rfl) _).setCell (a := ⟨g, i * 4 + 1, none⟩) (Or.inr rfl) _).setCell (a := ⟨g, i * 4 + 2, none⟩) (Or.inr rfl) _).setCell (a := ⟨g, i * 4 + 3, none⟩) (Or.inr rfl) _
    clear hS_5 oc3 oc2 t0 t1 t2 t3 y0 y1 y2 y3 hHeld
    go_wp2
    go_ret
    exact ⟨rfl, A2', c2', ⟨lv, nn, rt, A', n, c', qs⟩, S3.out, by show (_, _, _, _) = _; rw [HVS.out], T3.out⟩



end Go.Proofs.YtpgoildfjkokiaaGreat
