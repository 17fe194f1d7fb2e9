/- An arena of vacant places has no fault; what is left when a place is taken there, said plainly. -/
import Derived.Test.YtpgoildfjkokiaaGreatOpenArena
import Derived.Test.YtpgoildfjkokiaaGreatSpecNew
import Derived.Test.YtpgoildfjkokiaaGreatSpecTake
import Derived.Test.YtpgoildfjkokiaaGreatGround
import Derived.Test.YtpgoildfjkokiaaGreatFreeAll
import Derived.Test.YtpgoildfjkokiaaGreatArenaNone
import Derived.Test.YtpgoildfjkokiaaGreatTrees
import Derived.Test.YtpgoildfjkokiaaGreatPairLists
namespace Go.Proofs.YtpgoildfjkokiaaGreat
open Go.RowKit

theorem nodeFv_vac {d : Int} (h : 2 ≤ d ∧ d ≤ 3) : nodeFv d vacV = 0 := by
  unfold nodeFv vacV nodeF
  have hh : headOk (0, 0, (-1 : Int), ([] : List EVal)).1 (0, 0, (-1 : Int), ([] : List EVal)).2.1 (0, 0, (-1 : Int), ([] : List EVal)).2.2.1 d := ⟨h, by decide, by decide, by decide⟩
  rw [if_pos hh]
  rfl
theorem upTo_get {n k : Nat} {x : Int} (h : (upTo n)[k]? = some x) : x = (k : Int) ∧ k < n := by
  unfold upTo at h
  rw [List.getElem?_map] at h
  cases hr : (List.range n)[k]? with
  | none => rw [hr] at h; simp at h
  | some j =>
    rw [hr] at h
    have := List.getElem?_range (n := n) (i := k)
    simp only [Option.map_some, Option.some.injEq] at h
    have hk := (List.getElem?_eq_some_iff.1 hr)
    obtain ⟨h1, h2⟩ := hk
    rw [List.getElem_range] at h2
    rw [List.length_range] at h1
    exact ⟨by rw [← h, ← h2]; rfl, h1⟩
theorem replicate_get {n k : Nat} {v u : NVal} (h : (List.replicate n v)[k]? = some u) : u = v :=
  List.eq_of_mem_replicate (List.mem_of_getElem? h)
theorem arenaF_vac {d : Int} {n : Nat} (h : 2 ≤ d ∧ d ≤ 3) (hn : 4 ≤ n ∧ n ≤ 40) : arenaF d (List.replicate n vacV) (upTo n) [] = 0 := by
  have hl : (List.replicate n vacV).length = n := List.length_replicate
  have h3 : firstNZ (nodeFv d) (List.replicate n vacV) = 0 := firstNZ_all fun j u hu => by rw [replicate_get hu]; exact nodeFv_vac h
  have h4 : freeF (List.replicate n vacV) (upTo n) = 0 := by
    refine freeF_zero (allIn_true fun j x hx => ?_) (risesL_true fun j u v hu hv => ?_) fun j x hx => ?_
    · obtain ⟨rfl, h1⟩ := upTo_get hx
      rw [hl]; omega
    · obtain ⟨rfl, _⟩ := upTo_get hu
      obtain ⟨rfl, _⟩ := upTo_get hv
      omega
    · obtain ⟨rfl, h1⟩ := upTo_get hx
      rw [vacAt_is (v := vacV) (by rw [List.getElem?_replicate, if_pos h1])]
      simp
  rw [arenaF_taken h (by rw [hl]; exact hn) h3 h4 rfl]
  have ht : takenF (upTo n) (([] : List RVal).map (·.1)) = false := rfl
  rw [ht]; rfl
theorem upTo_cons (n : Nat) : upTo (n + 1) = 0 :: (List.range n).map (fun k => ((k + 1 : Nat) : Int)) := by
  unfold upTo
  rw [List.range_succ_eq_map, List.map_cons, List.map_map]
  rfl
/-- What a new tree's arena is: the first place is taken by an empty node. -/
theorem takeR_vac {d : Int} {n : Nat} (h : 2 ≤ d ∧ d ≤ 3) (hn : 4 ≤ n + 1 ∧ n + 1 ≤ 40) : takeR d (List.replicate (n + 1) vacV) (upTo (n + 1)) [] vacV = (0, d, (List.replicate (n + 1) vacV).set 0 vacV, (List.range n).map (fun k => ((k + 1 : Nat) : Int)), [], 0) := by
  have h1 := arenaF_vac h hn
  rw [upTo_cons] at h1 ⊢
  exact takeR_yes h1 (nodeFv_vac h)

end Go.Proofs.YtpgoildfjkokiaaGreat

/- The walk of spec.l4Take at the arena of a tree. -/
namespace Go.Proofs.YtpgoildfjkokiaaGreat
open Go.RowKit

/-- .. that lies in block B. -/
structure SpArT (w : World) (base B : Nat) (st d : Int) (A1 : Option Addr) (n1 c1 : Nat) (A2 : Option Addr) (n2 c2 : Nat) (A3 : Option Addr) (n3 c3 : Nat) (ns : List NV) (fs : List Int) (rs : List RV) : Prop where
  o : Lies w B 28 #[.int .i64 st, .int .i64 d, .slice A1 n1 c1, .slice A2 n2 c2, .slice A3 n3 c3, .int .i64 0, .int .i64 0, .int .i64 0]
  V : SpV w base A1 n1 c1 A2 n2 c2 A3 n3 c3 ns fs rs
  x : ∀ b, SpV.has A1 n1 c1 A2 n2 c2 A3 n3 c3 ns rs b → b ≠ B
section
variable {w w' W w1 : World} {base B n1 c1 n2 c2 n3 c3 g cap : Nat} {st d : Int} {A1 A2 A3 : Option Addr} {ns : List NV} {fs : List Int} {rs : List RV}
theorem SpArT.kept (h : SpArT w base B st d A1 n1 c1 A2 n2 c2 A3 n3 c3 ns fs rs) (hb : Below w.heap.size w w') : SpArT w' base B st d A1 n1 c1 A2 n2 c2 A3 n3 c3 ns fs rs := ⟨h.o.kept hb h.o.inside, h.V.kept hb, h.x⟩
theorem SpArT.drew (h : SpArT w base B st d A1 n1 c1 A2 n2 c2 A3 n3 c3 ns fs rs) : SpArT w.drew base B st d A1 n1 c1 A2 n2 c2 A3 n3 c3 ns fs rs := h.kept (Below.refl _ _).drew
theorem SpArT.alloc (h : SpArT w base B st d A1 n1 c1 A2 n2 c2 A3 n3 c3 ns fs rs) (o : Obj) : SpArT (w.alloc o) base B st d A1 n1 c1 A2 n2 c2 A3 n3 c3 ns fs rs := h.kept (below_alloc w o)
end
section
variable {w W : World} {base B n1 c1 n2 c2 n3 c3 g i : Nat} {st d : Int} {A1 A2 A3 : Option Addr} {ns : List NV} {fs : List Int} {rs : List RV} {q : NV}
/-- A node is written into its place. -/
theorem SpArT.node (h : SpArT w base B st d (some ⟨g, 0, none⟩) n1 c1 A2 n2 c2 A3 n3 c3 ns fs rs) (hi : i < n1) (hb : Below w.heap.size w W) (hq : Rows4 W w.heap.size q.n1 q.es (.slice q.A1 q.n1 q.c1)) (hq6 : q.n1 ≤ 6) (hlo : base ≤ w.heap.size) :
    SpArT ((((W.setCell ⟨g, i * 4, none⟩ (.int .i64 q.lv)).setCell ⟨g, i * 4 + 1, none⟩ (.int .i64 q.ns)).setCell ⟨g, i * 4 + 2, none⟩ (.int .i64 q.rt)).setCell ⟨g, i * 4 + 3, none⟩ (.slice q.A1 q.n1 q.c1)) base B st d (some ⟨g, 0, none⟩) n1 c1 A2 n2 c2 A3 n3 c3 (ns.set i q) fs rs := by
  have h' := h.kept hb
  have hlen := h.V.N.len
  have old := h.V.inB
  have own1 : (Value.slice (some (⟨g, 0, none⟩ : Addr)) n1 c1).ownBlock = some g := rfl
  have gin := old g (Or.inl own1)
  have hBi := h.o.inside
  have hs := hb.size
  have new := hq.inB
  have gX : g ∉ nodesB ns := h.V.N.X g own1
  have gB : g ≠ B := h.x g (Or.inl own1)
  have keep : ∀ b, b ≠ g → ((((W.setCell ⟨g, i * 4, none⟩ (.int .i64 q.lv)).setCell ⟨g, i * 4 + 1, none⟩ (.int .i64 q.ns)).setCell ⟨g, i * 4 + 2, none⟩ (.int .i64 q.rt)).setCell ⟨g, i * 4 + 3, none⟩ (.slice q.A1 q.n1 q.c1)).heap[b]? = W.heap[b]? := fun b hne =>
    (((heap_setCell_other _ ⟨g, i * 4 + 3, none⟩ b _ hne).trans (heap_setCell_other _ ⟨g, i * 4 + 2, none⟩ b _ hne)).trans (heap_setCell_other _ ⟨g, i * 4 + 1, none⟩ b _ hne)).trans (heap_setCell_other _ ⟨g, i * 4, none⟩ b _ hne)
  have hsz : W.heap.size ≤ ((((W.setCell ⟨g, i * 4, none⟩ (.int .i64 q.lv)).setCell ⟨g, i * 4 + 1, none⟩ (.int .i64 q.ns)).setCell ⟨g, i * 4 + 2, none⟩ (.int .i64 q.rt)).setCell ⟨g, i * 4 + 3, none⟩ (.slice q.A1 q.n1 q.c1)).heap.size := by simp only [size_of_setCell]; exact Nat.le_refl _
  have gnew : ∀ b ∈ nodeB q, b ≠ g := fun b hb' => by have := (new b hb').1; omega
  have gold : ∀ b ∈ nodesB ns, b ≠ g := fun b hb' e => gX (e ▸ hb')
  refine ⟨(keep B (fun e => gB e.symm)).trans h'.o, ⟨⟨?_, fun p hp => ?_, fun b e hm => ?_⟩, ?_, ?_, fun b e => ⟨(h.V.d b e).1, fun hm => ?_⟩, fun b e => ⟨(h.V.e b e).1, (h.V.e b e).2.1, fun hm => ?_⟩⟩, fun b e => ?_⟩
  · rw [← nv_set4 (by omega)]
    exact owns_set (owns_set (owns_set (owns_set h'.V.N.S _) _) _) _
  · rcases List.mem_or_eq_of_mem_set hp with hp' | rfl
    · exact ⟨(h'.V.N.Q p hp').1.others hsz (fun b hb' => keep b (gold b (List.mem_flatMap.2 ⟨p, hp', hb'⟩))), (h.V.N.Q p hp').2⟩
    · exact ⟨(hq.lower2 hlo).others hsz (fun b hb' => keep b (gnew b hb')), hq6⟩
  · have e' : g = b := by simpa [Value.ownBlock] using e
    subst e'
    rcases nodesB_set hm with hm | hm
    · exact gX hm
    · exact gnew g hm rfl
  · exact ownsRow_others h'.V.F (fun b e => keep b (fun e2 => (h.V.d b e).1 (by rw [own1, e2])))
  · exact h'.V.R.others (fun b e => keep b (fun e2 => (h.V.e b (Or.inl e)).1 (by rw [own1, e2]))) (fun b e => keep b (fun e2 => (h.V.e b (Or.inr e)).1 (by rw [own1, e2])))
  · rcases nodesB_set hm with hm | hm
    · exact (h.V.d b e).2 hm
    · have := (new b hm).1; have := (old b (Or.inr (Or.inr (Or.inl e)))).2; omega
  · rcases nodesB_set hm with hm | hm
    · exact (h.V.e b e).2.2 hm
    · have := (new b hm).1; have := (old b (Or.inr (Or.inr (Or.inr e)))).2; omega
  · rcases e with e | e | e
    · exact h.x b (Or.inl e)
    · rcases nodesB_set e with e | e
      · exact h.x b (Or.inr (Or.inl e))
      · have := (new b e).1; omega
    · exact h.x b (Or.inr (Or.inr e))
/-- The free places are another list. -/
theorem SpArT.free {A2' : Option Addr} {n2' c2' : Nat} {fs' : List Int} (h : SpArT w base B st d A1 n1 c1 A2 n2 c2 A3 n3 c3 ns fs rs) (hb : Below w.heap.size w W) (hF : W.ownsRow w.heap.size 2 1 (.slice A2' n2' c2') n2' (fs'.map (Value.int .i64))) (hlo : base ≤ w.heap.size) :
    SpArT (W.setCell ⟨B, 3, none⟩ (.slice A2' n2' c2')) base B st d A1 n1 c1 A2' n2' c2' A3 n3 c3 ns fs' rs := by
  have h' := h.kept hb
  have old := h.V.inB
  have hBi := h.o.inside
  have new := ownsRow_block2 hF
  have keep : ∀ b, b ≠ B → (W.setCell ⟨B, 3, none⟩ (.slice A2' n2' c2')).heap[b]? = W.heap[b]? := fun b hne => heap_setCell_other W ⟨B, 3, none⟩ b _ hne
  have hsz : W.heap.size ≤ (W.setCell ⟨B, 3, none⟩ (.slice A2' n2' c2')).heap.size := Nat.le_of_eq (size_of_setCell _ _ _).symm
  refine ⟨Lies.set (w := W) h'.o 3 _, ⟨?_, ?_, ?_, fun b e => ⟨fun e2 => ?_, fun e2 => ?_⟩, fun b e => ⟨(h.V.e b e).1, fun e2 => ?_, (h.V.e b e).2.2⟩⟩, fun b e => ?_⟩
  · exact h'.V.N.others hsz (fun b e => keep b (h.x b (Or.inl e))) (fun b e => keep b (h.x b (Or.inr (Or.inl e))))
  · exact ownsRow_lower (ownsRow_others hF (fun b e => keep b (by have := (new b e).1; omega))) hlo
  · exact h'.V.R.others (fun b e => keep b (h.x b (Or.inr (Or.inr (Or.inr (Or.inl e)))))) (fun b e => keep b (h.x b (Or.inr (Or.inr (Or.inr (Or.inr e))))))
  · have := (new b e).1; have := (old b (Or.inl e2)).2; omega
  · have := (new b e).1; have := (old b (Or.inr (Or.inl e2))).2; omega
  · have := (new b e2).1; have := (old b (Or.inr (Or.inr (Or.inr e)))).2; omega
  · rcases e with e | e | e | e
    · exact h.x b (Or.inl e)
    · exact h.x b (Or.inr (Or.inl e))
    · have := (new b e).1; omega
    · exact h.x b (Or.inr (Or.inr (Or.inr e)))
end
set_option maxRecDepth 100000 in
set_option maxHeartbeats 6400000 in
theorem l4TakeT_any (lv nn rt st d : Int) (base B g n1 c1 n2 c2 n3 c3 n c dd i : Nat) (A2 A3 A : Option Addr) (ns : List NV) (t : List Int) (rs : List RV) (es : List EV) (w0 w : World) (h : SpArT w base B st d (some ⟨g, 0, none⟩) n1 c1 A2 n2 c2 A3 n3 c3 ns ((i : Int) :: t) rs) (hi : i < n1) (hn1 : n1 ≤ 40) (hn2 : n2 ≤ 1048576) (he : Entries w0 A n es) (hb0 : Below w0.heap.size w0 w) (h00 : w0.heap.size ≤ base) (h0B : w0.heap.size ≤ B) (hn6 : n ≤ 6) (hd : 0 < dd) (hd3 : dd ≤ 3) (hl : LensE dd (es.map EV.val)) (hlo : base ≤ w.heap.size) :
    Calls Tryz.prog 72 #[.pointer (some ⟨B, 1, none⟩), .agg #[.int .i64 lv, .int .i64 nn, .int .i64 rt, .slice A n c]] w fun e w' => ∃ A2' c2' q, e = .returned (.int .i64 (i : Int)) ∧ SpArT w' base B st d (some ⟨g, 0, none⟩) n1 c1 A2' (n2 - 1) c2' A3 n3 c3 (ns.set i q) t rs ∧ q.val = (lv, nn, rt, es.map EV.val) ∧ Turned (fun x => x = B ∨ x = g) w w' := by
  have HE0 := Lib.hid he
  have HB0 := Lib.hid hb0
  have HLE := Lib.hid hl
  obtain ⟨gf, gi0, gi1⟩ : ∃ x, x = g ∧ base ≤ g := ⟨g, rfl, (h.V.inB g (Or.inl rfl)).1⟩
  have gsz := (h.V.inB g (Or.inl rfl)).2
  have hBi := h.o.inside
  have hn2p : 0 < n2 := by have := h.V.F.1; simp at this; omega
  obtain ⟨f, hA2, fown, hf1, hf2, hfc, hff⟩ := owned_at h.V.F hn2p
  subst hA2
  have hcap : n2 ≤ c2 ∧ c2 ≤ maxLen := by
    rcases h.V.F.2 with ⟨e1, _⟩ | ⟨g', cap, cur, e1, h2, h3, h4, h5, _⟩
    · injection e1 with e1; cases e1
    · injection e1 with _ _ e3; subst e3; exact ⟨h4, h5⟩
  have hft : Hid (Ints w 0 (some ⟨f, 1, none⟩) (n2 - 1) t) := by
    have hl1 : t.length = n2 - 1 := by have := h.V.F.1; simp at this; omega
    refine ⟨hl1, fun h0 => ⟨f, 1, rfl, Nat.zero_le _, hf2, fun k x hx => hfc _ _ ?_⟩⟩
    rw [Nat.add_comm, List.getElem?_map, List.getElem?_cons_succ, hx]; rfl
  have hl1 : t.length = n2 - 1 := by have := h.V.F.1; simp at this; omega
  have f0 : w.cell? ⟨f, 0, none⟩ = some (.int .i64 (i : Int)) := hfc 0 _ rfl
  have S1 := Lib.hid (h.alloc (.cells #[.int .i64 lv, .int .i64 nn, .int .i64 rt, .slice A n c] 42))
  have B1 := Lib.hid (below_alloc w (.cells #[.int .i64 lv, .int .i64 nn, .int .i64 rt, .slice A n c] 42))
  have L_n := Lib.hid (Lies.new w 42 #[.int .i64 lv, .int .i64 nn, .int .i64 rt, .slice A n c])
  have HT1 : Hid (Ints (w.alloc (.cells #[.int .i64 lv, .int .i64 nn, .int .i64 rt, .slice A n c] 42)) 0 (some ⟨f, 1, none⟩) (n2 - 1) t) := hft.out.kept B1.out
  have oc2' : (w.alloc (.cells #[.int .i64 lv, .int .i64 nn, .int .i64 rt, .slice A n c] 42)).cell? ⟨B, 3, none⟩ = some (.slice (some ⟨f, 0, none⟩) n2 c2) := S1.out.o.cell 3
  have f0' : (w.alloc (.cells #[.int .i64 lv, .int .i64 nn, .int .i64 rt, .slice A n c] 42)).cell? ⟨f, 0, none⟩ = some (.int .i64 (i : Int)) := (B1.out.cell (p := ⟨f, 0, none⟩) hf2).trans f0
  clear h he hb0 hl hfc hff f0 hft
  have h12 : (1 : Int) ≤ (n2 : Int) := by omega
  have hc2i : (n2 : Int) ≤ (c2 : Int) := by omega
  go_enter Tryz.func72, Tryz.ntmps72
  by_cases hc1 : c2 = 1
  · subst hc1
    obtain rfl : n2 = 1 := by omega
    obtain rfl : t = [] := List.eq_nil_of_length_eq_zero (by omega)
    go_wp2_with fail
    refine (l1Ints_all 0 0 0 (some ⟨f, 0, none⟩) [] _ (Ints.empty _ _ _) (by omega)).mono ?_
    rintro e Wa ⟨A2', c2', rfl, hF, ba⟩
    have SA := S1.out.kept ba
    have sa := ba.size
    simp only [World.size_alloc] at sa
    have S2' := Lib.hid (S1.out.free ba hF (by simp only [World.size_alloc]; omega))
    have q2 : Wa.cell? ⟨B, 3, none⟩ = some (.slice (some ⟨f, 0, none⟩) 1 1) := SA.o.cell 3
    have q3 : Wa.frozen? ⟨B, 3, none⟩ = false := SA.o.thawed 3
    have Ba := B1.out.trans (ba.mono B1.out.size)
    have T2' : Hid (Turned (fun x => x = B ∨ x = g) w (Wa.setCell ⟨B, 3, none⟩ (.slice A2' (0) c2'))) := (Turned.of_below Ba).setCell (a := ⟨B, 3, none⟩) (Or.inl rfl) _
    have L2' := Lib.hid ((L_n.out.kept ba L_n.out.inside).far (a := ⟨B, 3, none⟩) (by show w.heap.size ≠ B; omega) (.slice A2' (0) c2'))
    clear SA hF oc2' f0' h12 hc2i
    go_upto_region 3 with fail
    generalize hWW : (Wa.setCell ⟨B, 3, none⟩ (.slice A2' (0) c2')) = W2 at *
    have sW2 : W2.heap.size = Wa.heap.size := by rw [← hWW]; exact size_of_setCell _ _ _
    clear hWW q2 q3
    have S2 := S2'
    have L2 := L2'
    have B2 := Lib.hid (T2'.out.below HB0.out (fun x hx => by rcases hx with rfl | rfl <;> omega))
    have HE := HE0
    clear S2' L2'
    have oc2 : W2.cell? ⟨B, 2, none⟩ = some (.slice (some ⟨g, 0, none⟩) n1 c1) := S2.out.o.cell 2
    have hii : (i : Int) < (n1 : Int) := by omega
    refine wp_region_last 7 (fun w' => w'.cell? ⟨B, 2, none⟩ = some (.slice (some ⟨g, 0, none⟩) n1 c1)) (by kernel_rfl) (oc2) (fun hHeld => ?_)
    apply wpAnyL_take (i := 0)
    · simp only [List.getElem?_toArray, List.getElem?_cons_succ, List.getElem?_cons_zero]; exact rfl
    refine ⟨⟨by kernel_rfl, by kernel_rfl, by kernel_rfl, by kernel_rfl, by kernel_rfl⟩, fun _ _ _ h => h, ?_, hHeld, ?_⟩
    · intro w hSw; (try dsimp only at hSw); go_simp; all_goals (with_reducible rfl)
    (try simp only [Act.put, List.setIfInBounds_toArray, List.set_cons_zero, List.set_cons_succ])
    apply wpAnyL_take (i := 1)
    · simp only [List.getElem?_toArray, List.getElem?_cons_succ, List.getElem?_cons_zero]; exact rfl
    refine ⟨⟨by kernel_rfl, by kernel_rfl, by kernel_rfl, by kernel_rfl, by kernel_rfl⟩, fun _ _ _ h => h, ?_, hHeld, ?_⟩
    · intro w hSw; (try dsimp only at hSw); go_simp; all_goals (with_reducible rfl)
    (try simp only [Act.put, List.setIfInBounds_toArray, List.set_cons_zero, List.set_cons_succ])
    apply wpAnyL_take (i := 2)
    · simp only [List.getElem?_toArray, List.getElem?_cons_succ, List.getElem?_cons_zero]; exact rfl
    refine ⟨⟨by kernel_rfl, by kernel_rfl, by kernel_rfl, by kernel_rfl, by kernel_rfl⟩, fun _ _ _ h => h, ?_, hHeld, ?_⟩
    · intro w hSw; (try dsimp only at hSw); go_simp; all_goals (with_reducible rfl)
    (try simp only [Act.put, List.setIfInBounds_toArray, List.set_cons_zero, List.set_cons_succ])
    apply wpAnyL_take (i := 3)
    · simp only [List.getElem?_toArray, List.getElem?_cons_succ, List.getElem?_cons_zero]; exact rfl
    refine ⟨⟨by kernel_rfl, by kernel_rfl, by kernel_rfl, by kernel_rfl, by kernel_rfl⟩, fun _ _ _ h => h, ?_, hHeld, ?_⟩
    · intro w hSw; (try dsimp only at hSw); go_simp; all_goals (with_reducible rfl)
    (try simp only [Act.put, List.setIfInBounds_toArray, List.set_cons_zero, List.set_cons_succ])
    apply wpAnyL_take (i := 4)
    · simp only [List.getElem?_toArray, List.getElem?_cons_succ, List.getElem?_cons_zero]; exact rfl
    refine ⟨⟨by kernel_rfl, by kernel_rfl, by kernel_rfl, by kernel_rfl, by kernel_rfl⟩, fun _ _ _ h => h, ?_, hHeld, ?_⟩
    · intro w hSw; (try dsimp only at hSw); go_simp; all_goals (with_reducible rfl)
    (try simp only [Act.put, List.setIfInBounds_toArray, List.set_cons_zero, List.set_cons_succ])
    apply wpAnyL_one (i := 5)
    · simp only [List.getElem?_toArray, List.getElem?_cons_succ, List.getElem?_cons_zero]; exact rfl
    refine ⟨by kernel_rfl, fun K hK => ?_⟩
    go_simp
    go_at_call 46
    refine (l3Copy_any lv nn rt w.heap.size n c dd A es _ L2.out.drew.inside (L2.out.drew.cell 0) (L2.out.drew.cell 1) (L2.out.drew.cell 2) (L2.out.drew.cell 3) (HE.out.kept B2.out.drew) hn6 hd hd3 HLE.out).mono ?_
    rintro e W3 ⟨A', c', qs, rfl, hR4, hvs, b3d⟩
    have b3 := below_drawn b3d
    have hR5 : Hid (Rows4 W3 W2.heap.size n qs (.slice A' n c')) := Rows4.lower2 (q := ⟨lv, nn, rt, A', n, c', qs⟩) hR4 (by (try simp only [size_of_drew]); omega)
    have HVS := Lib.hid hvs
    have HB3 := Lib.hid b3
    have oc3 : W3.cell? ⟨B, 2, none⟩ = some (.slice (some ⟨g, 0, none⟩) n1 c1) := (S2.out.kept b3).o.cell 2
    obtain ⟨qo, hqo⟩ : ∃ q, ns[i]? = some q := ⟨_, List.getElem?_eq_getElem (by rw [S2.out.V.N.len]; exact hi)⟩
    have HAT := Lib.hid (owned_at (S2.out.kept b3).V.N.S (by omega))
    obtain ⟨g', eg, _, _, hgi, hcells, hfroz⟩ := HAT.out
    injection eg with eg
    injection eg with eg
    subst eg
    have t0 : W3.cell? ⟨g, i * 4, none⟩ = some (.int .i64 qo.lv) := hcells _ _ (nvCells_at (j := 0) hqo rfl)
    have t1 : W3.cell? ⟨g, i * 4 + 1, none⟩ = some (.int .i64 qo.ns) := hcells _ _ (nvCells_at (j := 1) hqo rfl)
    have t2 : W3.cell? ⟨g, i * 4 + 2, none⟩ = some (.int .i64 qo.rt) := hcells _ _ (nvCells_at (j := 2) hqo rfl)
    have t3 : W3.cell? ⟨g, i * 4 + 3, none⟩ = some (.slice qo.A1 qo.n1 qo.c1) := hcells _ _ (nvCells_at (j := 3) hqo rfl)
    have y0 : W3.frozen? ⟨g, i * 4, none⟩ = false := hfroz _
    have y1 : W3.frozen? ⟨g, i * 4 + 1, none⟩ = false := hfroz _
    have y2 : W3.frozen? ⟨g, i * 4 + 2, none⟩ = false := hfroz _
    have y3 : W3.frozen? ⟨g, i * 4 + 3, none⟩ = false := hfroz _
    clear b3d hR4 hvs HAT hcells hfroz hqo b3
    have hS_5 := oc3
    refine hK.out _ _ (fun _ => hS_5) ?_
    clear hK K
    (try simp only [Act.put, List.setIfInBounds_toArray, List.set_cons_zero, List.set_cons_succ])
    apply wpAnyL_take (i := 6)
    · simp only [List.getElem?_toArray, List.getElem?_cons_succ, List.getElem?_cons_zero]; exact rfl
    refine ⟨⟨by kernel_rfl, by kernel_rfl, by kernel_rfl, by kernel_rfl, by kernel_rfl⟩, fun _ _ _ h => h, ?_, hS_5, ?_⟩
    · intro w hSw; (try dsimp only at hSw); go_simp; all_goals (with_reducible rfl)
    (try simp only [Act.put, List.setIfInBounds_toArray, List.set_cons_zero, List.set_cons_succ])
    apply wpAnyL_one (i := 7)
    · simp only [List.getElem?_toArray, List.getElem?_cons_succ, List.getElem?_cons_zero]; exact rfl
    refine ⟨by kernel_rfl, fun K hK => ?_⟩
    go_simp
    refine hK.out _ _ (fun h => absurd rfl h) ?_
    clear hK K
    refine wpAnyL_done (by kernel_rfl) ?_ _
    have S3 := Lib.hid (S2.out.node (q := ⟨lv, nn, rt, A', n, c', qs⟩) hi HB3.out hR5.out hn6 (by have := T2'.out.2.1; omega))
    have T3 : Hid (Turned (fun x => x = B ∨ x = g) w ((((W3.setCell ⟨g, i * 4, none⟩ (.int .i64 lv)).setCell ⟨g, i * 4 + 1, none⟩ (.int .i64 nn)).setCell ⟨g, i * 4 + 2, none⟩ (.int .i64 rt)).setCell ⟨g, i * 4 + 3, none⟩ (.slice A' n c'))) :=
      ((((T2'.out.trans (Turned.of_below HB3.out)).setCell (a := ⟨g, i * 4, none⟩) (Or.inr rfl) _).setCell (a := ⟨g, i * 4 + 1, none⟩) (Or.inr rfl) _).setCell (a := ⟨g, i * 4 + 2, none⟩) (Or.inr rfl) _).setCell (a := ⟨g, i * 4 + 3, none⟩) (Or.inr rfl) _
    clear hS_5 oc3 oc2 t0 t1 t2 t3 y0 y1 y2 y3 hHeld
    go_wp2
    go_ret
    exact ⟨rfl, A2', c2', ⟨lv, nn, rt, A', n, c', qs⟩, S3.out, by show (_, _, _, _) = _; rw [HVS.out], T3.out⟩
  · have hc2 : ¬ ((c2 : Int) = 1) := by omega
    go_wp2_with fail
    refine (l1Ints_all (n2 - 1) (c2 - 1) 0 (some ⟨f, 1, none⟩) t _ HT1.out (by omega)).mono ?_
    rintro e Wa ⟨A2', c2', rfl, hF, ba⟩
    have SA := S1.out.kept ba
    have sa := ba.size
    simp only [World.size_alloc] at sa
    have S2' := Lib.hid (S1.out.free ba hF (by simp only [World.size_alloc]; omega))
    have q2 : Wa.cell? ⟨B, 3, none⟩ = some (.slice (some ⟨f, 0, none⟩) n2 c2) := SA.o.cell 3
    have q3 : Wa.frozen? ⟨B, 3, none⟩ = false := SA.o.thawed 3
    have Ba := B1.out.trans (ba.mono B1.out.size)
    have T2' : Hid (Turned (fun x => x = B ∨ x = g) w (Wa.setCell ⟨B, 3, none⟩ (.slice A2' ((n2 - 1)) c2'))) := (Turned.of_below Ba).setCell (a := ⟨B, 3, none⟩) (Or.inl rfl) _
    have L2' := Lib.hid ((L_n.out.kept ba L_n.out.inside).far (a := ⟨B, 3, none⟩) (by show w.heap.size ≠ B; omega) (.slice A2' ((n2 - 1)) c2'))
    clear SA hF oc2' f0' h12 hc2i
    go_upto_region 3 with fail
    generalize hWW : (Wa.setCell ⟨B, 3, none⟩ (.slice A2' ((n2 - 1)) c2')) = W2 at *
    have sW2 : W2.heap.size = Wa.heap.size := by rw [← hWW]; exact size_of_setCell _ _ _
    clear hWW q2 q3
    have S2 := S2'
    have L2 := L2'
    have B2 := Lib.hid (T2'.out.below HB0.out (fun x hx => by rcases hx with rfl | rfl <;> omega))
    have HE := HE0
    clear S2' L2'
    have oc2 : W2.cell? ⟨B, 2, none⟩ = some (.slice (some ⟨g, 0, none⟩) n1 c1) := S2.out.o.cell 2
    have hii : (i : Int) < (n1 : Int) := by omega
    refine wp_region_last 7 (fun w' => w'.cell? ⟨B, 2, none⟩ = some (.slice (some ⟨g, 0, none⟩) n1 c1)) (by kernel_rfl) (oc2) (fun hHeld => ?_)
    apply wpAnyL_take (i := 0)
    · simp only [List.getElem?_toArray, List.getElem?_cons_succ, List.getElem?_cons_zero]; exact rfl
    refine ⟨⟨by kernel_rfl, by kernel_rfl, by kernel_rfl, by kernel_rfl, by kernel_rfl⟩, fun _ _ _ h => h, ?_, hHeld, ?_⟩
    · intro w hSw; (try dsimp only at hSw); go_simp; all_goals (with_reducible rfl)
    (try simp only [Act.put, List.setIfInBounds_toArray, List.set_cons_zero, List.set_cons_succ])
    apply wpAnyL_take (i := 1)
    · simp only [List.getElem?_toArray, List.getElem?_cons_succ, List.getElem?_cons_zero]; exact rfl
    refine ⟨⟨by kernel_rfl, by kernel_rfl, by kernel_rfl, by kernel_rfl, by kernel_rfl⟩, fun _ _ _ h => h, ?_, hHeld, ?_⟩
    · intro w hSw; (try dsimp only at hSw); go_simp; all_goals (with_reducible rfl)
    (try simp only [Act.put, List.setIfInBounds_toArray, List.set_cons_zero, List.set_cons_succ])
    apply wpAnyL_take (i := 2)
    · simp only [List.getElem?_toArray, List.getElem?_cons_succ, List.getElem?_cons_zero]; exact rfl
    refine ⟨⟨by kernel_rfl, by kernel_rfl, by kernel_rfl, by kernel_rfl, by kernel_rfl⟩, fun _ _ _ h => h, ?_, hHeld, ?_⟩
    · intro w hSw; (try dsimp only at hSw); go_simp; all_goals (with_reducible rfl)
    (try simp only [Act.put, List.setIfInBounds_toArray, List.set_cons_zero, List.set_cons_succ])
    apply wpAnyL_take (i := 3)
    · simp only [List.getElem?_toArray, List.getElem?_cons_succ, List.getElem?_cons_zero]; exact rfl
    refine ⟨⟨by kernel_rfl, by kernel_rfl, by kernel_rfl, by kernel_rfl, by kernel_rfl⟩, fun _ _ _ h => h, ?_, hHeld, ?_⟩
    · intro w hSw; (try dsimp only at hSw); go_simp; all_goals (with_reducible rfl)
    (try simp only [Act.put, List.setIfInBounds_toArray, List.set_cons_zero, List.set_cons_succ])
    apply wpAnyL_take (i := 4)
    · simp only [List.getElem?_toArray, List.getElem?_cons_succ, List.getElem?_cons_zero]; exact rfl
    refine ⟨⟨by kernel_rfl, by kernel_rfl, by kernel_rfl, by kernel_rfl, by kernel_rfl⟩, fun _ _ _ h => h, ?_, hHeld, ?_⟩
    · intro w hSw; (try dsimp only at hSw); go_simp; all_goals (with_reducible rfl)
    (try simp only [Act.put, List.setIfInBounds_toArray, List.set_cons_zero, List.set_cons_succ])
    apply wpAnyL_one (i := 5)
    · simp only [List.getElem?_toArray, List.getElem?_cons_succ, List.getElem?_cons_zero]; exact rfl
    refine ⟨by kernel_rfl, fun K hK => ?_⟩
    go_simp
    go_at_call 46
    refine (l3Copy_any lv nn rt w.heap.size n c dd A es _ L2.out.drew.inside (L2.out.drew.cell 0) (L2.out.drew.cell 1) (L2.out.drew.cell 2) (L2.out.drew.cell 3) (HE.out.kept B2.out.drew) hn6 hd hd3 HLE.out).mono ?_
    rintro e W3 ⟨A', c', qs, rfl, hR4, hvs, b3d⟩
    have b3 := below_drawn b3d
    have hR5 : Hid (Rows4 W3 W2.heap.size n qs (.slice A' n c')) := Rows4.lower2 (q := ⟨lv, nn, rt, A', n, c', qs⟩) hR4 (by (try simp only [size_of_drew]); omega)
    have HVS := Lib.hid hvs
    have HB3 := Lib.hid b3
    have oc3 : W3.cell? ⟨B, 2, none⟩ = some (.slice (some ⟨g, 0, none⟩) n1 c1) := (S2.out.kept b3).o.cell 2
    obtain ⟨qo, hqo⟩ : ∃ q, ns[i]? = some q := ⟨_, List.getElem?_eq_getElem (by rw [S2.out.V.N.len]; exact hi)⟩
    have HAT := Lib.hid (owned_at (S2.out.kept b3).V.N.S (by omega))
    obtain ⟨g', eg, _, _, hgi, hcells, hfroz⟩ := HAT.out
    injection eg with eg
    injection eg with eg
    subst eg
    have t0 : W3.cell? ⟨g, i * 4, none⟩ = some (.int .i64 qo.lv) := hcells _ _ (nvCells_at (j := 0) hqo rfl)
    have t1 : W3.cell? ⟨g, i * 4 + 1, none⟩ = some (.int .i64 qo.ns) := hcells _ _ (nvCells_at (j := 1) hqo rfl)
    have t2 : W3.cell? ⟨g, i * 4 + 2, none⟩ = some (.int .i64 qo.rt) := hcells _ _ (nvCells_at (j := 2) hqo rfl)
    have t3 : W3.cell? ⟨g, i * 4 + 3, none⟩ = some (.slice qo.A1 qo.n1 qo.c1) := hcells _ _ (nvCells_at (j := 3) hqo rfl)
    have y0 : W3.frozen? ⟨g, i * 4, none⟩ = false := hfroz _
    have y1 : W3.frozen? ⟨g, i * 4 + 1, none⟩ = false := hfroz _
    have y2 : W3.frozen? ⟨g, i * 4 + 2, none⟩ = false := hfroz _
    have y3 : W3.frozen? ⟨g, i * 4 + 3, none⟩ = false := hfroz _
    clear b3d hR4 hvs HAT hcells hfroz hqo b3
    have hS_5 := oc3
    refine hK.out _ _ (fun _ => hS_5) ?_
    clear hK K
    (try simp only [Act.put, List.setIfInBounds_toArray, List.set_cons_zero, List.set_cons_succ])
    apply wpAnyL_take (i := 6)
    · simp only [List.getElem?_toArray, List.getElem?_cons_succ, List.getElem?_cons_zero]; exact rfl
    refine ⟨⟨by kernel_rfl, by kernel_rfl, by kernel_rfl, by kernel_rfl, by kernel_rfl⟩, fun _ _ _ h => h, ?_, hS_5, ?_⟩
    · intro w hSw; (try dsimp only at hSw); go_simp; all_goals (with_reducible rfl)
    (try simp only [Act.put, List.setIfInBounds_toArray, List.set_cons_zero, List.set_cons_succ])
    apply wpAnyL_one (i := 7)
    · simp only [List.getElem?_toArray, List.getElem?_cons_succ, List.getElem?_cons_zero]; exact rfl
    refine ⟨by kernel_rfl, fun K hK => ?_⟩
    go_simp
    refine hK.out _ _ (fun h => absurd rfl h) ?_
    clear hK K
    refine wpAnyL_done (by kernel_rfl) ?_ _
    have S3 := Lib.hid (S2.out.node (q := ⟨lv, nn, rt, A', n, c', qs⟩) hi HB3.out hR5.out hn6 (by have := T2'.out.2.1; omega))
    have T3 : Hid (Turned (fun x => x = B ∨ x = g) w ((((W3.setCell ⟨g, i * 4, none⟩ (.int .i64 lv)).setCell ⟨g, i * 4 + 1, none⟩ (.int .i64 nn)).setCell ⟨g, i * 4 + 2, none⟩ (.int .i64 rt)).setCell ⟨g, i * 4 + 3, none⟩ (.slice A' n c'))) :=
      ((((T2'.out.trans (Turned.of_below HB3.out)).setCell (a := ⟨g, i * 4, none⟩) (Or.inr rfl) _).setCell (a := ⟨g, i * 4 + 1, none⟩) (Or.inr rfl) _).setCell (a := ⟨g, i * 4 + 2, none⟩) (Or.inr rfl) _).setCell (a := ⟨g, i * 4 + 3, none⟩) (Or.inr rfl) _
    clear hS_5 oc3 oc2 t0 t1 t2 t3 y0 y1 y2 y3 hHeld
    go_wp2
    go_ret
    exact ⟨rfl, A2', c2', ⟨lv, nn, rt, A', n, c', qs⟩, S3.out, by show (_, _, _, _) = _; rw [HVS.out], T3.out⟩


end Go.Proofs.YtpgoildfjkokiaaGreat

/- The walks of impl.holderFrom and impl.readNode at a node without entries. -/
namespace Go.Proofs.YtpgoildfjkokiaaGreat
open Go.RowKit

set_option maxRecDepth 100000 in
set_option maxHeartbeats 1600000 in
theorem bunchFrom_nil (d : Int) (c : Nat) (A : Option Addr) (w : World) :
    Calls Tryz.prog 122 #[.slice A 0 c, .int .i64 d] w fun e w' => e = .returned (.agg #[.int .i64 d, .slice none 0 0]) ∧ Below w.heap.size w w' := by
  have HS := Lib.hid (Hold.start w d)
  go_enter Tryz.func122, Tryz.ntmps122
  go_wp2
  go_loopw [12] (fun i wr => i = .int .i64 0 ∧ Hid (Hold w wr d 0 [] (.slice none 0 0))) (fun _ _ => 0)
  case atStart => exact ⟨rfl, HS⟩
  case round =>
    obtain ⟨rfl, hU⟩ := hrel
    have y0 : wr.cell? ⟨w.heap.size + 1, 0, none⟩ = some (.int .i64 d) := hU.out.o.cell 0
    have y1 : wr.cell? ⟨w.heap.size + 1, 1, none⟩ = some (.slice none 0 0) := hU.out.o.cell 1
    have z0 : wr.cell? ⟨w.heap.size, 0, none⟩ = some (.int .i64 0) := hU.out.r.cell 0
    have z1 : wr.cell? ⟨w.heap.size, 1, none⟩ = some (.slice none 0 0) := hU.out.r.cell 1
    have f0 : wr.frozen? ⟨w.heap.size, 0, none⟩ = false := hU.out.r.thawed 0
    have f1 : wr.frozen? ⟨w.heap.size, 1, none⟩ = false := hU.out.r.thawed 1
    go_wp2
    refine bodyPost_ret (v := .agg #[.int .i64 d, .slice none 0 0]) (by simp [results, Tryz.results122, go_sem, z0, z1]) rfl ⟨rfl, ?_⟩
    exact (hU.out.b.setCell (Nat.le_refl _) _).setCell (Nat.le_refl _) _

set_option maxRecDepth 100000 in
set_option maxHeartbeats 3200000 in
theorem holderFrom_nil (lv ns rt d : Int) (c : Nat) (A : Option Addr) (w : World) :
    Calls Tryz.prog 107 #[.agg #[.int .i64 lv, .int .i64 ns, .int .i64 rt, .slice A 0 c], .int .i64 d] w fun e w' => e = .returned (holderV d lv ns rt none 0 0) ∧ Below w.heap.size w w' := by
  have B := Lib.hid (below_alloc w (.cells #[.int .i64 lv, .int .i64 ns, .int .i64 rt, .slice A 0 c] 42))
  have L_n := Lib.hid (Lies.new w 42 #[.int .i64 lv, .int .i64 ns, .int .i64 rt, .slice A 0 c])
  have szW := B.out.size
  go_enter Tryz.func107, Tryz.ntmps107
  go_upto_region 1 with fail
  generalize hW : w.alloc (.cells #[.int .i64 lv, .int .i64 ns, .int .i64 rt, .slice A 0 c] 42) = W0 at *
  clear hW
  go_cut [5] (fun s5 wx => ∃ (n_b : Nat), s5 = .pointer (some ⟨n_b, 0, none⟩) ∧ Hid (Lies wx n_b 164 #[.int .i64 d, .slice none 0 0, .int .i64 lv, .int .i64 ns, .int .i64 rt]) ∧ W0.heap.size ≤ n_b ∧ Hid (Since W0 wx))
  case first =>
    have c_n0 : W0.cell? ⟨w.heap.size, 0, none⟩ = some (.int .i64 lv) := L_n.out.cell 0
    have c_n1 : W0.cell? ⟨w.heap.size, 1, none⟩ = some (.int .i64 ns) := L_n.out.cell 1
    have c_n2 : W0.cell? ⟨w.heap.size, 2, none⟩ = some (.int .i64 rt) := L_n.out.cell 2
    have c_n3 : W0.cell? ⟨w.heap.size, 3, none⟩ = some (.slice A 0 c) := L_n.out.cell 3
    have i_n := L_n.out.inside
    have zd := size_of_drew
    go_region_held3 (fun w' => w'.cell? ⟨w.heap.size, 0, none⟩ = some (.int .i64 lv) ∧ w'.cell? ⟨w.heap.size, 1, none⟩ = some (.int .i64 ns) ∧ w'.cell? ⟨w.heap.size, 2, none⟩ = some (.int .i64 rt) ∧ w'.cell? ⟨w.heap.size, 3, none⟩ = some (.slice A 0 c))
      (exact ⟨Lies.cell (t := 42) (cs := #[.int .i64 lv, .int .i64 ns, .int .i64 rt, .slice A 0 c]) (by with_reducible (repeat (first | refine Lies.far ?_ ?_ _ | refine Lies.alloc ?_ _ | refine Lies.drew ?_ | refine Lies.call ?_ b1 | exact L_n.out)); all_goals (simp only [size_of_drew, size_of_setCell, World.size_alloc]; omega)) 0, Lies.cell (t := 42) (cs := #[.int .i64 lv, .int .i64 ns, .int .i64 rt, .slice A 0 c]) (by with_reducible (repeat (first | refine Lies.far ?_ ?_ _ | refine Lies.alloc ?_ _ | refine Lies.drew ?_ | refine Lies.call ?_ b1 | exact L_n.out)); all_goals (simp only [size_of_drew, size_of_setCell, World.size_alloc]; omega)) 1, Lies.cell (t := 42) (cs := #[.int .i64 lv, .int .i64 ns, .int .i64 rt, .slice A 0 c]) (by with_reducible (repeat (first | refine Lies.far ?_ ?_ _ | refine Lies.alloc ?_ _ | refine Lies.drew ?_ | refine Lies.call ?_ b1 | exact L_n.out)); all_goals (simp only [size_of_drew, size_of_setCell, World.size_alloc]; omega)) 2, Lies.cell (t := 42) (cs := #[.int .i64 lv, .int .i64 ns, .int .i64 rt, .slice A 0 c]) (by with_reducible (repeat (first | refine Lies.far ?_ ?_ _ | refine Lies.alloc ?_ _ | refine Lies.drew ?_ | refine Lies.call ?_ b1 | exact L_n.out)); all_goals (simp only [size_of_drew, size_of_setCell, World.size_alloc]; omega)) 3⟩)
      (first
        | (go_at_call 122; refine (bunchFrom_nil _ _ _ _).mono ?_
           rintro e W1 ⟨rfl, b1⟩
           have q_W1 := cells_kept b1
           have u_W1 := frozen_kept b1
           have z_W1 := sizes_kept b1
           try simp only [size_of_drew, World.size_alloc] at z_W1
           have le_W0_W1 : W0.heap.size ≤ W1.heap.size := by omega
           try (have lt_W0_W1 : W0.heap.size < W1.heap.size := by omega)))
    all_goals
      rename_i hH
      clear hH zd q_W1 u_W1 c_n0 c_n1 c_n2 c_n3
      go_wp2_with fail
      go_meet
      refine ⟨_, rfl, ?_, ?_, ?_⟩
      · refine Lib.hid ?_
        first
          | (refine Lies.as (cs := (((((#[.int .i64 0, .slice none 0 0, .int .i64 0, .int .i64 0, .int .i64 0].setIfInBounds 0 (.int .i64 d)).setIfInBounds 1 (.slice none 0 0)).setIfInBounds 2 (.int .i64 lv)).setIfInBounds 3 (.int .i64 ns)).setIfInBounds 4 (.int .i64 rt))) ?_ (by simp)
             with_reducible (repeat (first | refine Lies.set ?_ _ _ | refine Lies.far ?_ ?_ _ | (refine Lies.laid ?_; (simp only [size_of_drew, size_of_setCell, World.size_alloc]; done)) | exact Lies.new _ _ _ | exact Lies.laid2 _ _ _ _ | refine Lies.alloc ?_ _ | refine Lies.drew ?_ | refine Lies.call ?_ b1))
             all_goals first | exact Nat.ne_of_lt (Nat.lt_succ_self _) | exact Nat.ne_of_gt (Nat.lt_succ_self _) | exact Nat.ne_of_lt lt_W0_W1 | exact Nat.ne_of_gt lt_W0_W1 | (show ¬ _ = _; (try simp only [size_of_drew, size_of_setCell, World.size_alloc]); omega)
             done)
          | (with_reducible (repeat (first | refine Lies.far ?_ ?_ _ | (refine Lies.laid ?_; (simp only [size_of_drew, size_of_setCell, World.size_alloc]; done)) | exact Lies.new _ _ _ | exact Lies.laid2 _ _ _ _ | refine Lies.alloc ?_ _ | refine Lies.drew ?_ | refine Lies.call ?_ b1))
             all_goals first | exact Nat.ne_of_lt (Nat.lt_succ_self _) | exact Nat.ne_of_gt (Nat.lt_succ_self _) | exact Nat.ne_of_lt lt_W0_W1 | exact Nat.ne_of_gt lt_W0_W1 | (show ¬ _ = _; (try simp only [size_of_drew, size_of_setCell, World.size_alloc]); omega)
             done)
      · first | exact Nat.le_refl _ | exact Nat.le_succ _ | exact le_W0_W1 | exact Nat.le_succ_of_le le_W0_W1 | omega
      · refine Lib.hid ?_
        with_reducible (repeat (first | refine Since.setCell ?_ ?_ _ | refine Since.alloc ?_ _ | refine Since.drew ?_ | refine Since.call ?_ b1))
        · exact Since.of (Below.refl _ _)
        all_goals first | exact Nat.le_refl _ | exact Nat.le_succ _ | exact le_W0_W1 | exact Nat.le_succ_of_le le_W0_W1 | (show _ ≤ _; (try simp only [size_of_drew, size_of_setCell, World.size_alloc]); omega)
  case' rest =>
    obtain ⟨n_b, rfl, L_b, g_b, S⟩ := hcut
    have bS := S.out.below
    clear S
  replace L_n := Lib.hid (L_n.out.kept bS L_n.out.inside)
  replace B := Lib.hid (B.out.trans (bS.mono B.out.size))
  clear bS
  have y0 : wc.cell? ⟨n_b, 0, none⟩ = some (.int .i64 d) := L_b.out.cell 0
  have y1 : wc.cell? ⟨n_b, 1, none⟩ = some (.slice none 0 0) := L_b.out.cell 1
  have y2 : wc.cell? ⟨n_b, 2, none⟩ = some (.int .i64 lv) := L_b.out.cell 2
  have y3 : wc.cell? ⟨n_b, 3, none⟩ = some (.int .i64 ns) := L_b.out.cell 3
  have y4 : wc.cell? ⟨n_b, 4, none⟩ = some (.int .i64 rt) := L_b.out.cell 4
  go_wp2_with fail
  refine (bodyHolder_any d lv ns rt 0 0 none _).mono ?_
  rintro e W3 ⟨rfl, b3⟩
  clear y0 y1 y2 y3 y4
  have B3 := Lib.hid (B.out.trans (b3.mono B.out.size))
  clear b3
  go_wp2
  go_ret
  exact ⟨rfl, B3.out⟩

set_option maxHeartbeats 800000 in
theorem eachFault_nil (d : Int) (c : Nat) (A : Option Addr) (w : World) :
    Calls Tryz.prog 125 #[.slice A 0 c, .int .i64 d] w fun e w' => e = .returned (.int .i64 0) ∧ Below w.heap.size w w' :=
  eachFault_any d 0 c A [] w ⟨rfl, fun h => absurd h (Nat.lt_irrefl 0), fun p hp => by simp at hp⟩ (Nat.zero_le _)

set_option maxRecDepth 100000 in
set_option maxHeartbeats 3200000 in
theorem readNode_nil (lv ns rt d : Int) (c : Nat) (A : Option Addr) (w : World) (hz : nodeF lv ns rt [] d = 0) :
    Calls Tryz.prog 108 #[.agg #[.int .i64 lv, .int .i64 ns, .int .i64 rt, .slice A 0 c], .int .i64 d] w fun e w' => e = .returned (.tuple #[holderV d lv ns rt none 0 0, .int .i64 0]) ∧ Below w.heap.size w w' := by
  have hok := (nodeF_zero hz).1
  have hh : headF lv ns rt d 0 = 0 := by unfold headF; rw [if_pos hok]; rfl
  have hh1 : (headF lv ns rt d 0 != 0) = false := by simp [hh]
  have SLN : Slots w none 0 [] := ⟨rfl, fun h => absurd h (Nat.lt_irrefl 0)⟩
  have HSL := Lib.hid SLN
  have HSO : Hid (SlotsOf [] []) := ⟨rfl, fun k v s hv _ => by simp at hv⟩
  have HTW : Hid (twiceE [] = false) := rfl
  clear hz hok hh SLN
  have B := Lib.hid (below_alloc w (.cells #[.int .i64 lv, .int .i64 ns, .int .i64 rt, .slice A 0 c] 42))
  have L_n := Lib.hid (Lies.new w 42 #[.int .i64 lv, .int .i64 ns, .int .i64 rt, .slice A 0 c])
  go_enter Tryz.func108, Tryz.ntmps108
  go_wp2_with fail
  refine (headFault_any _ _ _ _ _ _ _ _ (Nat.zero_le _)).mono ?_
  rintro e W1 ⟨rfl, b1⟩
  replace L_n := Lib.hid (L_n.out.kept b1 L_n.out.inside)
  replace B := Lib.hid (B.out.trans (b1.mono B.out.size))
  clear b1
  have t3 : W1.cell? ⟨w.heap.size, 3, none⟩ = some (.slice A 0 c) := L_n.out.cell 3
  go_wp2_with fail
  refine (eachFault_nil _ _ _ _).mono ?_
  rintro e W2 ⟨rfl, b2⟩
  replace L_n := Lib.hid (L_n.out.kept b2 L_n.out.inside)
  replace B := Lib.hid (B.out.trans (b2.mono B.out.size))
  clear b2 t3 hh1
  have z0 : W2.cell? ⟨w.heap.size, 0, none⟩ = some (.int .i64 lv) := L_n.out.cell 0
  have z1 : W2.cell? ⟨w.heap.size, 1, none⟩ = some (.int .i64 ns) := L_n.out.cell 1
  have z2 : W2.cell? ⟨w.heap.size, 2, none⟩ = some (.int .i64 rt) := L_n.out.cell 2
  have z3 : W2.cell? ⟨w.heap.size, 3, none⟩ = some (.slice A 0 c) := L_n.out.cell 3
  go_wp2_with fail
  refine (holderFrom_nil _ _ _ _ _ _ _).mono ?_
  rintro e W3 ⟨rfl, b2⟩
  replace B := Lib.hid (B.out.trans (b2.mono B.out.size))
  clear b2 L_n z0 z1 z2 z3
  by_cases hl0 : lv = 0
  · have hm1 : ∀ w : World, (method 323 184 (.agg #[.int .i64 d, .slice none 0 0, .int .i64 lv, .int .i64 ns, .int .i64 rt]) "loop.example/g00680/impl.sound").run Tryz.prog w = .ok (179, .agg #[.int .i64 d, .slice none 0 0, .int .i64 lv, .int .i64 ns, .int .i64 rt]) w := fun _ => by kernel_rfl
    have hm2 : ∀ w : World, (method 323 184 (.agg #[.int .i64 d, .slice none 0 0, .int .i64 lv, .int .i64 ns, .int .i64 rt]) "loop.example/g00680/impl.refTwice").run Tryz.prog w = .ok (165, .agg #[.int .i64 d, .slice none 0 0]) w := fun _ => by kernel_rfl
    have HV : Hid (holderV d lv ns rt none 0 0 = .iface 184 (.agg #[.int .i64 d, .slice none 0 0, .int .i64 lv, .int .i64 ns, .int .i64 rt])) := by show holderV _ _ _ _ _ _ _ = _; unfold holderV; rw [if_pos hl0]
    have HL0 := Lib.hid hl0
    clear hl0
    rw [HV.out]
    go_wp2_with fail
    refine (leafSound_any _ _ _ _ _ _ _ [] _ (HSL.out.kept B.out) (Nat.zero_le _) HL0.out).mono ?_
    rintro e W3 ⟨rfl, b3⟩
    replace B := Lib.hid (B.out.trans (b3.mono B.out.size))
    clear b3
    rw [List.all_nil]
    go_wp2_with fail
    refine (refTwice_any _ _ _ _ [] [] _ (HSL.out.kept B.out) HSO.out (Nat.zero_le _)).mono ?_
    rintro e W4 ⟨rfl, b4⟩
    replace B := Lib.hid (B.out.trans (b4.mono B.out.size))
    clear b4
    rw [HTW.out]
    go_wp2
    go_ret2
    exact ⟨ret_two HV.out.symm rfl, B.out⟩
  · have hm1 : ∀ w : World, (method 323 185 (.agg #[.int .i64 d, .slice none 0 0, .int .i64 lv, .int .i64 ns, .int .i64 rt]) "loop.example/g00680/impl.sound").run Tryz.prog w = .ok (184, .agg #[.int .i64 d, .slice none 0 0, .int .i64 lv, .int .i64 ns, .int .i64 rt]) w := fun _ => by kernel_rfl
    have hm2 : ∀ w : World, (method 323 185 (.agg #[.int .i64 d, .slice none 0 0, .int .i64 lv, .int .i64 ns, .int .i64 rt]) "loop.example/g00680/impl.refTwice").run Tryz.prog w = .ok (165, .agg #[.int .i64 d, .slice none 0 0]) w := fun _ => by kernel_rfl
    have HV : Hid (holderV d lv ns rt none 0 0 = .iface 185 (.agg #[.int .i64 d, .slice none 0 0, .int .i64 lv, .int .i64 ns, .int .i64 rt])) := by show holderV _ _ _ _ _ _ _ = _; unfold holderV; rw [if_neg hl0]
    have HL0 := Lib.hid hl0
    clear hl0
    rw [HV.out]
    go_wp2_with fail
    refine (innerSound_any _ _ _ _ _ _ _ [] _ (HSL.out.kept B.out) (Nat.zero_le _) HL0.out).mono ?_
    rintro e W3 ⟨rfl, b3⟩
    replace B := Lib.hid (B.out.trans (b3.mono B.out.size))
    clear b3
    rw [List.all_nil]
    go_wp2_with fail
    refine (refTwice_any _ _ _ _ [] [] _ (HSL.out.kept B.out) HSO.out (Nat.zero_le _)).mono ?_
    rintro e W4 ⟨rfl, b4⟩
    replace B := Lib.hid (B.out.trans (b4.mono B.out.size))
    clear b4
    rw [HTW.out]
    go_wp2
    go_ret2
    exact ⟨ret_two HV.out.symm rfl, B.out⟩

end Go.Proofs.YtpgoildfjkokiaaGreat

/- The walk of impl.ground's vacate: a place is written anew, empty and free. -/
namespace Go.Proofs.YtpgoildfjkokiaaGreat
open Go.RowKit

/-- An empty place's cells. -/
def vacPlace (d : Int) : Array Value := #[.iface (hty 0) (.agg #[.int .i64 d, .slice none 0 0, .int .i64 0, .int .i64 0, .int .i64 (-1)]), .bool true, .slice none 0 0]
theorem holderFrom_vac (d : Int) (w : World) : Calls Tryz.prog 107 #[.agg #[.int .i64 0, .int .i64 0, .int .i64 (-1), .slice none 0 0], .int .i64 d] w fun e w' => e = .returned (.iface (hty 0) (.agg #[.int .i64 d, .slice none 0 0, .int .i64 0, .int .i64 0, .int .i64 (-1)])) ∧ Below w.heap.size w w' := holderFrom_nil 0 0 (-1) d 0 none w

set_option maxRecDepth 100000 in
set_option maxHeartbeats 3200000 in
theorem vacate_any (d : Int) (G pb cp n j pg : Nat) (v0 v1 v2 m o : Value) (w : World) (hG : Lies w G 109 #[.int .i64 d, .slice (some ⟨pb, 0, none⟩) n cp, m, o]) (hc : w.cell? ⟨pb, j, none⟩ = some (.pointer (some ⟨pg, 0, none⟩))) (hp : Lies w pg 87 #[v0, v1, v2]) (h1 : pg ≠ G) (h2 : pg ≠ pb) (hj : j < n) (hn : n ≤ 40) :
    Calls Tryz.prog 75 #[.pointer (some ⟨G, 0, none⟩), .int .i64 (j : Int)] w fun e w' => e = .returned noResult ∧ Turned (fun x => x = pg) w w' ∧ Lies w' pg 87 (vacPlace d) := by
  have HG := Lib.hid hG
  have HP := Lib.hid hp
  have hpb : pb < w.heap.size := by
    rcases Nat.lt_or_ge pb w.heap.size with h' | h'
    · exact h'
    · have : w.heap[pb]? = none := Array.getElem?_eq_none h'
      simp [World.cell?, this] at hc
  have hj' : (j : Int) < (n : Int) := by omega
  have n1 : ¬ pg = G := h1
  have n2 : ¬ pg = pb := h2
  have n3 : ¬ G = pg := fun e => h1 e.symm
  have n4 : ¬ pb = pg := fun e => h2 e.symm
  have k_0 : w.cell? ⟨G, 1, none⟩ = some (.slice (some ⟨pb, 0, none⟩) n cp) ∧ w.cell? ⟨pb, j, none⟩ = some (.pointer (some ⟨pg, 0, none⟩)) ∧ w.cell? ⟨G, 0, none⟩ = some (.int .i64 d) := ⟨hG.cell 1, hc, hG.cell 0⟩
  clear hG hp hc h1 h2
  go_enter Tryz.func75, Tryz.ntmps75
  go_wp2
  go_region_held3 (fun w' => w'.cell? ⟨G, 1, none⟩ = some (.slice (some ⟨pb, 0, none⟩) n cp) ∧ w'.cell? ⟨pb, j, none⟩ = some (.pointer (some ⟨pg, 0, none⟩)) ∧ w'.cell? ⟨G, 0, none⟩ = some (.int .i64 d))
    (first | (simp [go_sem, k_0]; done) | with_reducible exact k_1 | with_reducible exact k_2 | (simp [go_sem, k_2, n1, n2, n3, n4]; done))
    (first
      | (go_at_call 37; refine (vacantNode_any _).mono ?_
         rintro e W1 ⟨rfl, b1d⟩
         have b1 := below_drawn b1d
         have k_1 : W1.cell? ⟨G, 1, none⟩ = some (.slice (some ⟨pb, 0, none⟩) n cp) ∧ W1.cell? ⟨pb, j, none⟩ = some (.pointer (some ⟨pg, 0, none⟩)) ∧ W1.cell? ⟨G, 0, none⟩ = some (.int .i64 d) := ⟨(HG.out.kept b1 HG.out.inside).cell 1, (b1.cell (p := ⟨pb, j, none⟩) hpb).trans k_0.2.1, (HG.out.kept b1 HG.out.inside).cell 0⟩
         clear b1d)
      | (go_at_call 107; refine (holderFrom_vac d _).mono ?_
         rintro e W2 ⟨rfl, b2⟩
         have b2' := b1.trans (b2.mono b1.size)
         have HP2 := Lib.hid (HP.out.kept b2' HP.out.inside)
         have k_2 : W2.cell? ⟨G, 1, none⟩ = some (.slice (some ⟨pb, 0, none⟩) n cp) ∧ W2.cell? ⟨pb, j, none⟩ = some (.pointer (some ⟨pg, 0, none⟩)) ∧ W2.cell? ⟨G, 0, none⟩ = some (.int .i64 d) := ⟨(HG.out.kept b2' HG.out.inside).cell 1, (b2'.cell (p := ⟨pb, j, none⟩) hpb).trans k_0.2.1, (HG.out.kept b2' HG.out.inside).cell 0⟩
         have s0 : W2.cell? ⟨pg, 0, none⟩ = some v0 := HP2.out.cell 0
         have s1 : W2.cell? ⟨pg, 1, none⟩ = some v1 := HP2.out.cell 1
         have s2 : W2.cell? ⟨pg, 2, none⟩ = some v2 := HP2.out.cell 2
         have f0 : W2.frozen? ⟨pg, 0, none⟩ = false := HP2.out.thawed 0
         have f1 : W2.frozen? ⟨pg, 1, none⟩ = false := HP2.out.thawed 1
         have f2 : W2.frozen? ⟨pg, 2, none⟩ = false := HP2.out.thawed 2
         clear b2))
  all_goals
    have LV := Lib.hid (((HP2.out.set 0 (.iface (hty 0) (.agg #[.int .i64 d, .slice none 0 0, .int .i64 0, .int .i64 0, .int .i64 (-1)]))).set 1 (.bool true)).set 2 (.slice none 0 0))
    have TT := Lib.hid (((((Turned.of_below (G := fun x => x = pg) b2').setCell (a := ⟨pg, 0, none⟩) rfl (.iface (hty 0) (.agg #[.int .i64 d, .slice none 0 0, .int .i64 0, .int .i64 0, .int .i64 (-1)]))).setCell (a := ⟨pg, 1, none⟩) rfl (.bool true)).setCell (a := ⟨pg, 2, none⟩) rfl (.slice none 0 0)))
    go_wp2
    go_end0
    exact ⟨rfl, TT.out, LV.out⟩

end Go.Proofs.YtpgoildfjkokiaaGreat

/- The walk of impl.NewArena. -/
namespace Go.Proofs.YtpgoildfjkokiaaGreat
open Go.RowKit

/-- An empty place in block g. -/
def vacLV (g : Nat) : LV := ⟨g, 0, 0, -1, none, 0, 0, [], [], true, none, 0, 0, []⟩
theorem vacLV_cells (d : Int) (g : Nat) : (vacLV g).cells d = vacPlace d := rfl
theorem vac_node {d : Int} (h : 2 ≤ d ∧ d ≤ 3) : nodeF 0 0 (-1) [] d = 0 := by
  rw [nodeF_twice ⟨h, by omega, by omega, by omega⟩ (by simp) rfl rfl]
  rfl
theorem vacLV_ok {w : World} {lo g : Nat} {d : Int} (hL : Lies w g 87 (vacPlace d)) (hg : lo ≤ g) (hd : 2 ≤ d ∧ d ≤ 3) : PlaceOk w lo d (vacLV g) := by
  refine ⟨hL, ⟨rfl, fun h => absurd h (Nat.lt_irrefl 0)⟩, ⟨rfl, fun k v s hv _ => by simp [vacLV] at hv⟩, vac_node hd, Ints.empty _ _ _, hg, fun h => absurd h (Nat.lt_irrefl 0), fun h => absurd h (Nat.lt_irrefl 0), ?_⟩
  rintro (⟨h, _⟩ | ⟨h, _⟩)
  · exact absurd h (Nat.lt_irrefl 0)
  · exact absurd h (Nat.lt_irrefl 0)

/-- The k-th pointer. -/
def ptrF (gs : List Nat) (j : Nat) : Value := match gs[j]? with | some g => .pointer (some ⟨g, 0, none⟩) | none => .pointer none
theorem ptrF_new {gs : List Nat} {k : Nat} (h : gs.length = k) : ptrF gs k = .pointer none := by unfold ptrF; rw [List.getElem?_eq_none (by omega)]
theorem ptrF_next {gs : List Nat} {k g : Nat} (h : gs.length = k) (j : Nat) : (if j = k then Value.pointer (some ⟨g, 0, none⟩) else ptrF gs j) = ptrF (gs ++ [g]) j := by
  unfold ptrF
  by_cases hj : j = k
  · subst hj; subst h; simp
  · rw [if_neg hj]
    rcases Nat.lt_or_ge j k with h1 | h1
    · rw [List.getElem?_append_left (by omega)]
    · rw [List.getElem?_eq_none (by omega), List.getElem?_eq_none (by simp; omega)]
/-- Where NewArena's loop stands: k places are laid. -/
structure Laying (w wr : World) (pb : Nat) (d : Int) (n k : Nat) (m : Value) (gs : List Nat) : Prop where
  b : Below w.heap.size w wr
  r : Lies wr w.heap.size 53 #[.int .i64 0, .int .i64 0, .slice none 0 0, .slice none 0 0, .slice none 0 0, .int .i64 0]
  p : wr.rowIs pb 81 n (ptrF gs)
  G : Lies wr (pb + 1) 109 #[.int .i64 d, .slice (some ⟨pb, 0, none⟩) n n, m, .slice none 0 0]
  l : gs.length = k
  lo : w.heap.size < pb
  P : ∀ g ∈ gs, pb + 1 + 1 ≤ g ∧ Lies wr g 87 (vacPlace d)
theorem Laying.kept {w wr W : World} {pb : Nat} {d : Int} {n k : Nat} {m : Value} {gs : List Nat} (h : Laying w wr pb d n k m gs) (hb : Below wr.heap.size wr W) : Laying w W pb d n k m gs :=
  ⟨h.b.trans (hb.mono h.b.size), h.r.kept hb h.r.inside, h.p.of_block (hb.block _ h.p.lt), h.G.kept hb h.G.inside, h.l, h.lo, fun g hg => ⟨(h.P g hg).1, (h.P g hg).2.kept hb (h.P g hg).2.inside⟩⟩

theorem Laying.lay {w wr W0 W : World} {pb : Nat} {d : Int} {n k pg : Nat} {m : Value} {gs : List Nat} (h : Laying w wr pb d n k m gs) (hpg : pg = wr.heap.size) (hW : W0 = (wr.alloc (.cells #[.nilIface, .bool false, .slice none 0 0] 87)).setCell ⟨pb, k, none⟩ (.pointer (some ⟨pg, 0, none⟩))) (ht : Turned (fun x => x = pg) W0 W) (hL : Lies W pg 87 (vacPlace d)) :
    Laying w W pb d n (k + 1) m (gs ++ [pg]) := by
  have hs := h.G.inside
  have hw := h.b.size
  have hlo := h.lo
  have ne : ∀ x, x < wr.heap.size → ¬ x = pg := fun x hx e => by omega
  have hB : Below w.heap.size w W0 := by rw [hW]; exact (h.b.alloc h.b.size _).setCell (by show w.heap.size ≤ pb; omega) _
  have hP : W0.rowIs pb 81 n (ptrF (gs ++ [pg])) := by rw [hW]; exact ((h.p.alloc _).set k _).congr fun j _ => ptrF_next h.l j
  have far : ∀ {g : Nat} {t : TypeId} {cs : Array Value}, Lies wr g t cs → g ≠ pb → Lies W0 g t cs := fun hl hg => by rw [hW]; exact (hl.alloc _).far hg _
  refine ⟨ht.below hB (fun x hx => by subst hx; omega), ht.lies (far h.r (by omega)) (ne _ h.r.inside), ?_, ht.lies (far h.G (by omega)) (ne _ hs), by simp [h.l], h.lo, fun g hg => ?_⟩
  · refine hP.of_block (ht.2.2 _ ?_ (ne _ (by omega)))
    rw [hW]; simp only [size_of_setCell, World.size_alloc]; omega
  · rcases List.mem_append.1 hg with hg | hg
    · obtain ⟨h1, h2⟩ := h.P g hg
      exact ⟨h1, ht.lies (far h2 (by omega)) (ne _ h2.inside)⟩
    · simp only [List.mem_singleton] at hg
      subst hg
      exact ⟨by omega, hL⟩

/-- What NewArena answers. -/
def NewOut (d : Int) (n : Nat) (cd : Int) (w : World) (e : Ending) (w' : World) : Prop :=
  Below w.heap.size w w' ∧ ((cd ≠ 0 ∧ e = .returned (.agg #[.int .i64 cd, .int .i64 0, .slice none 0 0, .slice none 0 0, .slice none 0 0, .int .i64 0])) ∨
    (cd = 0 ∧ ∃ (base kf : Nat) (vN vF : Value) (qs : List NV) (gs : List Nat), e = .returned (.agg #[.int .i64 0, .int .i64 d, vN, vF, .slice none 0 0, .int .i64 0]) ∧ w.heap.size ≤ base ∧ gs.length = n ∧ NodesOut w' base vN n qs ∧ w'.ownsRow base 2 1 vF kf ((freeL 0 (gs.map vacLV)).map (Value.int .i64)) ∧ (∀ b, vF.ownBlock = some b → vN.ownBlock ≠ some b ∧ b ∉ nodesB qs) ∧ qs.map NV.val = (gs.map vacLV).map LV.val))

theorem info_ptr6 : (Tryz.prog.info? 81).map (fun i => (i.zero, i.size, i.bytes)) = some (some (.pointer none), 1, 8) := by kernel_rfl

set_option maxRecDepth 100000 in
set_option maxHeartbeats 12800000 in
theorem implNewArena_any (d r : Int) (w : World) :
    Calls Tryz.prog 35 #[.int .i64 d, .int .i64 r] w (NewOut d r.toNat (groundF d r) w) := by
  have B := Lib.hid (below_alloc w (.cells #[.int .i64 0, .int .i64 0, .slice none 0 0, .slice none 0 0, .slice none 0 0, .int .i64 0] 53))
  have L_r := Lib.hid (Lies.new w 53 #[.int .i64 0, .int .i64 0, .slice none 0 0, .slice none 0 0, .slice none 0 0, .int .i64 0])
  by_cases hz : groundF d r = 0
  rotate_left
  · have hz1 : (groundF d r != 0) = true := by simpa using hz
    have HZ := Lib.hid hz
    clear hz
    go_enter Tryz.func35, Tryz.ntmps35
    go_wp2_with fail
    refine (groundFault_any _ _ _).mono ?_
    rintro e W1 ⟨rfl, b1⟩
    replace L_r := Lib.hid (L_r.out.kept b1 L_r.out.inside)
    replace B := Lib.hid (B.out.trans (b1.mono B.out.size))
    clear b1
    have z0 : W1.cell? ⟨w.heap.size, 0, none⟩ = some (.int .i64 0) := L_r.out.cell 0
    have y0 : W1.frozen? ⟨w.heap.size, 0, none⟩ = false := L_r.out.thawed 0
    have z1 : W1.cell? ⟨w.heap.size, 1, none⟩ = some (.int .i64 0) := L_r.out.cell 1
    have y1 : W1.frozen? ⟨w.heap.size, 1, none⟩ = false := L_r.out.thawed 1
    have z2 : W1.cell? ⟨w.heap.size, 2, none⟩ = some (.slice none 0 0) := L_r.out.cell 2
    have y2 : W1.frozen? ⟨w.heap.size, 2, none⟩ = false := L_r.out.thawed 2
    have z3 : W1.cell? ⟨w.heap.size, 3, none⟩ = some (.slice none 0 0) := L_r.out.cell 3
    have y3 : W1.frozen? ⟨w.heap.size, 3, none⟩ = false := L_r.out.thawed 3
    have z4 : W1.cell? ⟨w.heap.size, 4, none⟩ = some (.slice none 0 0) := L_r.out.cell 4
    have y4 : W1.frozen? ⟨w.heap.size, 4, none⟩ = false := L_r.out.thawed 4
    have z5 : W1.cell? ⟨w.heap.size, 5, none⟩ = some (.int .i64 0) := L_r.out.cell 5
    have y5 : W1.frozen? ⟨w.heap.size, 5, none⟩ = false := L_r.out.thawed 5
    go_wp2
    refine bodyPost_ret (v := .agg #[.int .i64 (groundF d r), .int .i64 0, .slice none 0 0, .slice none 0 0, .slice none 0 0, .int .i64 0]) (by simp [results, Tryz.results35, go_sem, z0, z1, z2, z3, z4, z5]) rfl ⟨?_, Or.inl ⟨HZ.out, rfl⟩⟩
    repeat (with_reducible refine Below.setCell ?_ (by exact Nat.le_refl _) _)
    exact B.out
  have hd : 2 ≤ d ∧ d ≤ 3 := by
    unfold groundF at hz
    by_cases h : 2 ≤ d ∧ d ≤ 3
    · exact h
    · rw [if_neg h] at hz; omega
  have hr : 4 ≤ r ∧ r ≤ 40 := by
    unfold groundF at hz
    rw [if_pos hd] at hz
    by_cases h : 4 ≤ r ∧ r ≤ 40
    · exact h
    · rw [if_neg h] at hz; omega
  have hz1 : (groundF d r != 0) = false := by simp [hz]
  have HZ := Lib.hid hz
  clear hz
  obtain ⟨n, rfl⟩ : ∃ n : Nat, r = (n : Int) := ⟨r.toNat, by omega⟩
  have hn : n ≤ 40 := by omega
  have hmk := fun W => run_make_row' (P := Tryz.prog) 106 81 (.pointer none) 8 Tryz.underlying106 info_ptr6 rfl .i64 .i64 n (by omega) (by omega) W
  go_enter Tryz.func35, Tryz.ntmps35
  go_wp2_with fail
  refine (groundFault_any _ _ _).mono ?_
  rintro e W1 ⟨rfl, b1⟩
  replace L_r := Lib.hid (L_r.out.kept b1 L_r.out.inside)
  replace B := Lib.hid (B.out.trans (b1.mono B.out.size))
  clear b1
  have lw1 := L_r.out.inside
  go_wp2
  clear hmk
  go_loopw [25] (fun i wr => ∃ (k : Nat) (m : Value) (gs : List Nat), k ≤ n ∧ i = .int .i64 (k : Int) ∧ Hid (Laying w wr W1.heap.size d n k m gs)) (fun i _ => n - (intOf i).toNat)
  case atStart =>
    refine ⟨0, _, [], Nat.zero_le _, rfl, Lib.hid ⟨(B.out.alloc B.out.size _).alloc (B.out.alloc B.out.size _).size _, (L_r.out.alloc _).alloc _, ?_, Lies.laid2 _ _ _ _, rfl, lw1, fun g hg => by simp at hg⟩⟩
    exact ((World.rowIs_made W1 _ n _).alloc _).congr fun i _ => by simp [ptrF]
  case round =>
    obtain ⟨k, m, gs, hk, rfl, hU⟩ := hrel
    have g1 : wr.cell? ⟨W1.heap.size + 1, 1, none⟩ = some (.slice (some ⟨W1.heap.size, 0, none⟩) n n) := hU.out.G.cell 1
    have hGi := hU.out.G.inside
    by_cases hlt : k < n
    · have p0 : wr.cell? ⟨W1.heap.size, k, none⟩ = some (.pointer none) := by rw [hU.out.p.cell hlt, ptrF_new hU.out.l]
      have p1 : wr.frozen? ⟨W1.heap.size, k, none⟩ = false := hU.out.p.frozen k
      have p2 : (wr.alloc (.cells #[.nilIface, .bool false, .slice none 0 0] 87)).cell? ⟨W1.heap.size, k, none⟩ = some (.pointer none) := by rw [(hU.out.p.alloc _).cell hlt, ptrF_new hU.out.l]
      have p3 : (wr.alloc (.cells #[.nilIface, .bool false, .slice none 0 0] 87)).frozen? ⟨W1.heap.size, k, none⟩ = false := (hU.out.p.alloc _).frozen k
      obtain ⟨W0, hW0⟩ : ∃ W0, W0 = (wr.alloc (.cells #[.nilIface, .bool false, .slice none 0 0] 87)).setCell ⟨W1.heap.size, k, none⟩ (.pointer (some ⟨wr.heap.size, 0, none⟩)) := ⟨_, rfl⟩
      have lG : Lies W0 (W1.heap.size + 1) 109 #[.int .i64 d, .slice (some ⟨W1.heap.size, 0, none⟩) n n, m, .slice none 0 0] := by rw [hW0]; exact (hU.out.G.alloc _).far (by show W1.heap.size + 1 ≠ W1.heap.size; omega) _
      have lP : Lies W0 wr.heap.size 87 #[.nilIface, .bool false, .slice none 0 0] := by rw [hW0]; exact (Lies.new wr _ _).far (by show wr.heap.size ≠ W1.heap.size; omega) _
      have cP : W0.cell? ⟨W1.heap.size, k, none⟩ = some (.pointer (some ⟨wr.heap.size, 0, none⟩)) := by
        have h := ((hU.out.p.alloc (.cells #[.nilIface, .bool false, .slice none 0 0] 87)).set k (.pointer (some ⟨wr.heap.size, 0, none⟩))).cell hlt
        rw [hW0]
        simpa using h
      have HG := Lib.hid lG
      have HPl := Lib.hid lP
      have HCP := Lib.hid cP
      have HW0 := Lib.hid hW0
      clear lG lP cP
      go_wp2_with fail
      rw [← hW0]
      clear hW0
      refine (vacate_any d (W1.heap.size + 1) W1.heap.size n n k wr.heap.size _ _ _ m _ _ HG.out HCP.out HPl.out (by omega) (by omega) hlt hn).mono ?_
      rintro e W3 ⟨rfl, t3, l3⟩
      have hU2 := Lib.hid (hU.out.lay (pg := wr.heap.size) rfl HW0.out t3 l3)
      clear t3 l3 hU g1 p0 p1 p2 p3 HG HPl HCP HW0 hGi
      go_wp2
      go_roundw
      case rel => exact ⟨k + 1, m, _, by omega, by go_num, hU2⟩
      case measure => simp [intOf]; omega
    · have hkn : k = n := by omega
      subst hkn
      have HPO : Hid (∀ p ∈ gs.map vacLV, PlaceOk wr (W1.heap.size + 1 + 1) d p) := by
        intro p hp
        obtain ⟨g, hg, rfl⟩ := List.mem_map.1 hp
        exact vacLV_ok (hU.out.P g hg).2 (hU.out.P g hg).1 hd
      have HPT : Hid (∀ (j : Nat) (p : LV), (gs.map vacLV)[j]? = some p → wr.cell? ⟨W1.heap.size, j, none⟩ = some p.ptr) := by
        intro j p hj
        rw [List.getElem?_map] at hj
        obtain ⟨g, hg, rfl⟩ := Option.map_eq_some_iff.1 hj
        have hjn : j < k := by have := (List.getElem?_eq_some_iff.1 hg).1; rw [hU.out.l] at this; exact this
        rw [hU.out.p.cell hjn]
        unfold ptrF; rw [hg]; rfl
      go_wp2_with fail
      refine (arenaNone_any (W1.heap.size + 1 + 1) (W1.heap.size + 1) W1.heap.size k k d m (gs.map vacLV) _ hU.out.G HPO.out HPT.out (by rw [List.length_map]; exact hU.out.l) (by omega) hn).mono ?_
      rintro e W3 ⟨kf, vN, vF, qs, rfl, hN, hF, hD, hQ, b3⟩
      have LR := Lib.hid (hU.out.r.kept b3 hU.out.r.inside)
      have BB := Lib.hid (hU.out.b.trans (b3.mono hU.out.b.size))
      have hlo := hU.out.lo
      have hl := hU.out.l
      have hri := hU.out.r.inside
      obtain ⟨A1, k1, hv1⟩ : ∃ A c, vN = .slice A k c := by
        rcases hN.S.2 with ⟨e, e2⟩ | ⟨g, cap, cur, e, _⟩
        · subst e2; exact ⟨none, 0, e⟩
        · exact ⟨_, _, e⟩
      obtain ⟨A2, k2, hv2⟩ : ∃ A c, vF = .slice A kf c := by
        rcases hF.2 with ⟨e, e2⟩ | ⟨g, cap, cur, e, _⟩
        · subst e2; exact ⟨none, 0, e⟩
        · exact ⟨_, _, e⟩
      subst hv1
      subst hv2
      have HN := Lib.hid hN
      have HF := Lib.hid hF
      have HD := Lib.hid hD
      have HQ := Lib.hid hQ
      have lt2 : w.heap.size < wr.heap.size + 1 + 1 := by omega
      clear hN hF hD hQ b3 hU g1 hGi HPO HPT
      have z0 : W3.cell? ⟨w.heap.size, 0, none⟩ = some (.int .i64 0) := LR.out.cell 0
      have y0 : W3.frozen? ⟨w.heap.size, 0, none⟩ = false := LR.out.thawed 0
      have z1 : W3.cell? ⟨w.heap.size, 1, none⟩ = some (.int .i64 0) := LR.out.cell 1
      have y1 : W3.frozen? ⟨w.heap.size, 1, none⟩ = false := LR.out.thawed 1
      have z2 : W3.cell? ⟨w.heap.size, 2, none⟩ = some (.slice none 0 0) := LR.out.cell 2
      have y2 : W3.frozen? ⟨w.heap.size, 2, none⟩ = false := LR.out.thawed 2
      have z3 : W3.cell? ⟨w.heap.size, 3, none⟩ = some (.slice none 0 0) := LR.out.cell 3
      have y3 : W3.frozen? ⟨w.heap.size, 3, none⟩ = false := LR.out.thawed 3
      have z4 : W3.cell? ⟨w.heap.size, 4, none⟩ = some (.slice none 0 0) := LR.out.cell 4
      have y4 : W3.frozen? ⟨w.heap.size, 4, none⟩ = false := LR.out.thawed 4
      have z5 : W3.cell? ⟨w.heap.size, 5, none⟩ = some (.int .i64 0) := LR.out.cell 5
      have y5 : W3.frozen? ⟨w.heap.size, 5, none⟩ = false := LR.out.thawed 5
      have N4 := Lib.hid (((((((HN.out.far (a := ⟨w.heap.size, 0, none⟩) lt2 (.int .i64 0)).far (a := ⟨w.heap.size, 1, none⟩) lt2 (.int .i64 d)).far (a := ⟨w.heap.size, 2, none⟩) lt2 (.slice A1 k k1)).far (a := ⟨w.heap.size, 3, none⟩) lt2 (.slice A2 kf k2)).far (a := ⟨w.heap.size, 4, none⟩) lt2 (.slice none 0 0)).far (a := ⟨w.heap.size, 5, none⟩) lt2 (.int .i64 0)))
      have F4 := Lib.hid ((ownsRow_far2 (ownsRow_far2 (ownsRow_far2 (ownsRow_far2 (ownsRow_far2 (ownsRow_far2 HF.out (a := ⟨w.heap.size, 0, none⟩) lt2 (.int .i64 0)) (a := ⟨w.heap.size, 1, none⟩) lt2 (.int .i64 d)) (a := ⟨w.heap.size, 2, none⟩) lt2 (.slice A1 k k1)) (a := ⟨w.heap.size, 3, none⟩) lt2 (.slice A2 kf k2)) (a := ⟨w.heap.size, 4, none⟩) lt2 (.slice none 0 0)) (a := ⟨w.heap.size, 5, none⟩) lt2 (.int .i64 0)))
      have B4 := Lib.hid (((((((BB.out.setCell (p := ⟨w.heap.size, 0, none⟩) (Nat.le_refl _) (.int .i64 0)).setCell (p := ⟨w.heap.size, 1, none⟩) (Nat.le_refl _) (.int .i64 d)).setCell (p := ⟨w.heap.size, 2, none⟩) (Nat.le_refl _) (.slice A1 k k1)).setCell (p := ⟨w.heap.size, 3, none⟩) (Nat.le_refl _) (.slice A2 kf k2)).setCell (p := ⟨w.heap.size, 4, none⟩) (Nat.le_refl _) (.slice none 0 0)).setCell (p := ⟨w.heap.size, 5, none⟩) (Nat.le_refl _) (.int .i64 0)))
      clear HN HF BB
      go_wp2
      refine bodyPost_ret (v := .agg #[.int .i64 0, .int .i64 d, .slice A1 k k1, .slice A2 kf k2, .slice none 0 0, .int .i64 0]) (by simp [results, Tryz.results35, go_sem, z0, z1, z2, z3, z4, z5]) rfl ⟨B4.out, Or.inr ⟨HZ.out, wr.heap.size + 1 + 1, kf, _, _, qs, gs, rfl, by omega, ?_, N4.out, F4.out, HD.out, HQ.out⟩⟩
      rw [hl]; simp

end Go.Proofs.YtpgoildfjkokiaaGreat

/- Answers of NewArena: arenas whose nodes hold nothing. -/
namespace Go.Proofs.YtpgoildfjkokiaaGreat
open Go.RowKit

theorem ownsRow_cells {w : World} {base n c size : Nat} {e : TypeId} {A : Option Addr} {xs : List Value} (h : w.ownsRow base e size (.slice A n c) n xs) (h0 : 0 < n) :
    ∃ g, A = some ⟨g, 0, none⟩ ∧ base ≤ g ∧ g < w.heap.size ∧ (∀ (i : Nat) (v : Value), xs[i]? = some v → w.cell? ⟨g, i, none⟩ = some v) ∧ ∀ i, w.frozen? ⟨g, i, none⟩ = false := by
  obtain ⟨hl, h1⟩ := h
  rcases h1 with ⟨_, h2⟩ | ⟨g, cap, cur, e1, h2, h3, h4, h5, h6, h7⟩
  · omega
  · injection e1 with e1 e2 e3
    subst e1
    have hg : g < w.heap.size := by
      rcases Nat.lt_or_ge g w.heap.size with h' | h'
      · exact h'
      · exact absurd (h3.symm.trans (Array.getElem?_eq_none h')) (by simp)
    refine ⟨g, rfl, h2, hg, fun i v hv => ?_, fun i => ?_⟩
    · rw [cell_of_row w g i cur e (0, 0) h3]
      have hi : i < n * size := by have := (List.getElem?_eq_some_iff.1 hv).1; omega
      have h8 : (cur.toList.take (n * size))[i]? = some v := by rw [h7]; exact hv
      rw [List.getElem?_take, if_pos hi] at h8
      simpa using h8
    · simp [World.frozen?, h3]
theorem ownsRow_slice {w : World} {base n size : Nat} {e : TypeId} {v : Value} {xs : List Value} (h : w.ownsRow base e size v n xs) : ∃ A c, v = .slice A n c := by
  rcases h.2 with ⟨h1, h2⟩ | ⟨g, cap, cur, e1, _⟩
  · exact ⟨none, 0, by rw [h1, h2]⟩
  · exact ⟨_, _, e1⟩
theorem nCells_at : ∀ {ns : List NV} {k j : Nat} {q : NV} {v : Value}, ns[k]? = some q → q.cells[j]? = some v → (ns.flatMap NV.cells)[k * 4 + j]? = some v
  | [], k, j, q, v, h, _ => by simp at h
  | a :: t, 0, j, q, v, h, hv => by
    simp only [List.getElem?_cons_zero, Option.some.injEq] at h
    subst h
    have hj : j < a.cells.length := (List.getElem?_eq_some_iff.1 hv).1
    rw [List.flatMap_cons, Nat.zero_mul, Nat.zero_add, List.getElem?_append_left hj]; exact hv
  | a :: t, k + 1, j, q, v, h, hv => by
    have ih := nCells_at (ns := t) (k := k) (j := j) (q := q) (v := v) (by simpa using h) hv
    have hl : a.cells.length = 4 := rfl
    rw [List.flatMap_cons, List.getElem?_append_right (by rw [hl]; omega), hl, show (k + 1) * 4 + j - 4 = k * 4 + j by omega]; exact ih
theorem nCells_len (ns : List NV) : (ns.flatMap NV.cells).length = ns.length * 4 := by
  induction ns with
  | nil => rfl
  | cons a t ih => rw [List.flatMap_cons, List.length_append, ih, List.length_cons, show a.cells.length = 4 from rfl]; omega
theorem rowV_mem {b : Nat} : ∀ {ns : List NV} {k : Nat} {c : Addr}, (∀ q ∈ ns, q.es = []) → c ∈ rowC (nodeCells b 0) k ns → ∃ i q j, ns[i]? = some q ∧ j < 3 ∧ c = ⟨b, (k + i) * 4 + j, none⟩
  | [], k, c, he, h => by simp [rowC] at h
  | a :: t, k, c, he, h => by
    have ea : esA a.A1 a.es = [] := by rw [he a (by simp)]; exact esA_nil _
    simp only [rowC, nodeCells, ea, List.append_nil, List.mem_append, List.mem_singleton] at h
    rcases h with (h | h | h) | h
    · exact ⟨0, a, 0, rfl, by omega, by rw [h, show (k + 0) * 4 + 0 = 0 + k * 4 by omega]⟩
    · exact ⟨0, a, 1, rfl, by omega, by rw [h, show (k + 0) * 4 + 1 = 0 + k * 4 + 1 by omega]⟩
    · exact ⟨0, a, 2, rfl, by omega, by rw [h, show (k + 0) * 4 + 2 = 0 + k * 4 + 2 by omega]⟩
    · obtain ⟨i, q, j, h1, h2, h3⟩ := rowV_mem (fun q hq => he q (by simp [hq])) h
      exact ⟨i + 1, q, j, by simpa using h1, h2, by rw [h3, show k + 1 + i = k + (i + 1) by omega]⟩
theorem rowV_nodup {b : Nat} : ∀ {ns : List NV} {k : Nat}, (∀ q ∈ ns, q.es = []) → (rowC (nodeCells b 0) k ns).Nodup ∧ (rowC (nodeCells b 0) k ns).length = ns.length * 3
  | [], k, he => by simp [rowC]
  | a :: t, k, he => by
    have ea : esA a.A1 a.es = [] := by rw [he a (by simp)]; exact esA_nil _
    obtain ⟨h1, h2⟩ := rowV_nodup (b := b) (ns := t) (k := k + 1) (fun q hq => he q (by simp [hq]))
    refine ⟨?_, ?_⟩
    · simp only [rowC]
      rw [List.nodup_append]
      refine ⟨?_, h1, fun c hc c' hc' e => ?_⟩
      · simp only [nodeCells, ea]; simp
      · subst e
        obtain ⟨i, q, j, g1, g2, rfl⟩ := rowV_mem (fun q hq => he q (by simp [hq])) hc'
        simp only [nodeCells, ea, List.append_nil, List.mem_append, List.mem_singleton, Addr.mk.injEq] at hc
        omega
    · simp only [rowC, List.length_append, h2, nodeCells, ea, List.length_cons, List.length_nil]; omega
theorem intCells_nodup (b n : Nat) : (intCells (some ⟨b, 0, none⟩) n).Nodup := by
  unfold intCells
  exact List.Pairwise.map _ (fun x y hxy e => hxy (by injection e with _ e2; simp only [Nat.zero_add] at e2; exact e2)) List.nodup_range

/-- An answer of NewArena. -/
structure VacAr (w : World) (lo : Nat) (A1 A2 : Option Addr) (n : Nat) (ns : List NV) : Prop where
  L : ArenaL w A1 A2 none n n 0 ns (upTo n) []
  S : ArSh w A1 A2 none n n 0 ns []
  W : Writ w (arCells A1 A2 none n ns [])
  D : (arCells A1 A2 none n ns []).Nodup
  H : ∀ c ∈ arCells A1 A2 none n ns [], lo ≤ c.block ∧ c.block < w.heap.size
  s : (arCells A1 A2 none n ns []).length ≤ 1000

theorem vac_list {w : World} {base : Nat} {A1 A2 : Option Addr} {n c1 c2 : Nat} {ns : List NV}
    (h1 : w.ownsRow base 42 4 (.slice A1 n c1) n (ns.flatMap NV.cells)) (h2 : w.ownsRow base 2 1 (.slice A2 n c2) n ((upTo n).map (Value.int .i64)))
    (he : ∀ q ∈ ns, q.es = [] ∧ q.n1 = 0) (hn : n ≤ 40) : ArenaL w A1 A2 none n n 0 ns (upTo n) [] := by
  have hl : ns.length = n := by have := h1.1; rw [nCells_len] at this; omega
  have hm : n ≤ maxLen := Nat.le_trans hn (by decide)
  refine ⟨⟨hl, fun h0 => ?_, fun p hp => ?_⟩, ?_, ⟨rfl, fun h => absurd h (Nat.lt_irrefl 0), fun p hp => by simp at hp⟩, hm, hm, by decide⟩
  · obtain ⟨g, rfl, g1, g2, g3, g4⟩ := ownsRow_cells h1 h0
    refine ⟨g, 0, rfl, g2, fun k p hk => ?_⟩
    simp only [Nat.zero_add]
    exact ⟨g3 _ _ (nCells_at (j := 0) hk rfl), g3 _ _ (nCells_at (j := 1) hk rfl), g3 _ _ (nCells_at (j := 2) hk rfl), g3 _ _ (nCells_at (j := 3) hk rfl)⟩
  · obtain ⟨e1, e2⟩ := he p hp
    refine ⟨⟨by rw [e1, e2]; rfl, fun h => by omega, fun q hq => by rw [e1] at hq; simp at hq⟩, by omega⟩
  · obtain ⟨A, c, e, h⟩ := ints_of_owns h2
    injection e with e1 e2 e3
    subst e1
    exact ⟨h.1, fun h0 => by obtain ⟨b, o, f1, f2, f3, f4⟩ := h.2 h0; exact ⟨b, o, f1, Nat.zero_le _, f3, f4⟩⟩

theorem vac_ours {w : World} {base : Nat} {A1 A2 : Option Addr} {n c1 c2 : Nat} {ns : List NV}
    (h1 : w.ownsRow base 42 4 (.slice A1 n c1) n (ns.flatMap NV.cells)) (h2 : w.ownsRow base 2 1 (.slice A2 n c2) n ((upTo n).map (Value.int .i64)))
    (he : ∀ q ∈ ns, q.es = [] ∧ q.n1 = 0) (hn : n ≤ 40) (hd : ∀ b, (Value.slice A2 n c2).ownBlock = some b → (Value.slice A1 n c1).ownBlock ≠ some b) : VacAr w base A1 A2 n ns := by
  have hl : ns.length = n := by have := h1.1; rw [nCells_len] at this; omega
  have hle : (upTo n).length = n := by simp [upTo]
  have L := vac_list h1 h2 he hn
  rcases Nat.eq_zero_or_pos n with rfl | h0
  · obtain rfl : ns = [] := List.eq_nil_of_length_eq_zero hl
    have hz : arCells A1 A2 none 0 [] [] = [] := by unfold arCells; rw [nsA_nil, rsA_nil, intCells_zero]; rfl
    refine ⟨L, ⟨⟨rfl, fun h => absurd h (Nat.lt_irrefl 0), fun p hp => by simp at hp⟩, fun h => absurd h (Nat.lt_irrefl 0), ⟨rfl, fun h => absurd h (Nat.lt_irrefl 0), fun p hp => by simp at hp⟩, by decide, by decide, by decide⟩, ?_, ?_, ?_, ?_⟩
    · rw [hz]; intro c hc; simp at hc
    · rw [hz]; simp
    · rw [hz]; intro c hc; simp at hc
    · rw [hz]; simp
  · obtain ⟨g, rfl, g1, g2, g3, g4⟩ := ownsRow_cells h1 h0
    obtain ⟨f, rfl, f1, f2, f3, f4⟩ := ownsRow_cells h2 h0
    have hgf : g ≠ f := fun e => hd f rfl (by rw [e]; rfl)
    have he1 : ∀ q ∈ ns, q.es = [] := fun q hq => (he q hq).1
    have hcs : arCells (some ⟨g, 0, none⟩) (some ⟨f, 0, none⟩) none n ns [] = rowC (nodeCells g 0) 0 ns ++ intCells (some ⟨f, 0, none⟩) n := by
      unfold arCells; rw [rsA_nil, List.append_nil]; rfl
    obtain ⟨nd, nl⟩ := rowV_nodup (b := g) (k := 0) he1
    have im : ∀ c ∈ intCells (some ⟨f, 0, none⟩) n, ∃ i, i < n ∧ c = ⟨f, i, none⟩ := by
      intro c hc
      simp only [intCells, List.mem_map, List.mem_range, Nat.zero_add] at hc
      obtain ⟨i, hi, e⟩ := hc
      exact ⟨i, hi, e.symm⟩
    refine ⟨L, ⟨⟨hl, fun _ => ⟨g, 0, rfl, fun k p hk => ?_⟩, fun p hp => ?_⟩, fun _ => ⟨f, 0, rfl⟩, ⟨rfl, fun h => absurd h (Nat.lt_irrefl 0), fun p hp => by simp at hp⟩, by omega, by omega, by decide⟩, ?_, ?_, ?_, ?_⟩
    · simp only [Nat.zero_add]
      exact g3 _ _ (nCells_at (j := 3) hk rfl)
    · obtain ⟨e1, e2⟩ := he p hp
      exact ⟨⟨by rw [e1, e2]; rfl, fun h => by omega, fun q hq => by rw [e1] at hq; simp at hq⟩, by omega⟩
    · rw [hcs]
      intro c hc
      rcases List.mem_append.1 hc with hc | hc
      · obtain ⟨i, q, j, h5, h6, rfl⟩ := rowV_mem he1 hc
        refine ⟨?_, g4 _⟩
        rw [Nat.zero_add]
        match j, h6 with
        | 0, _ => exact ⟨_, g3 _ _ (nCells_at (j := 0) h5 rfl)⟩
        | 1, _ => exact ⟨_, g3 _ _ (nCells_at (j := 1) h5 rfl)⟩
        | 2, _ => exact ⟨_, g3 _ _ (nCells_at (j := 2) h5 rfl)⟩
      · obtain ⟨i, hi, rfl⟩ := im c hc
        exact ⟨⟨(i : Int), f3 _ _ (by simp [upTo, hi])⟩, f4 _⟩
    · rw [hcs, List.nodup_append]
      refine ⟨nd, intCells_nodup _ _, fun c hc c' hc' e => ?_⟩
      subst e
      obtain ⟨i, q, j, h5, h6, rfl⟩ := rowV_mem he1 hc
      obtain ⟨i', hi, e⟩ := im _ hc'
      injection e with e _
      exact hgf e
    · rw [hcs]
      intro c hc
      rcases List.mem_append.1 hc with hc | hc
      · obtain ⟨i, q, j, h5, h6, rfl⟩ := rowV_mem he1 hc
        exact ⟨g1, g2⟩
      · obtain ⟨i, hi, rfl⟩ := im c hc
        exact ⟨f1, f2⟩
    · rw [hcs, List.length_append, nl, hl, intCells_len]; omega
theorem VacAr.kept {w w' : World} {lo n : Nat} {A1 A2 : Option Addr} {ns : List NV} (h : VacAr w lo A1 A2 n ns) (hb : Below w.heap.size w w') : VacAr w' lo A1 A2 n ns :=
  ⟨h.L.kept hb, h.S.kept hb, h.W.kept hb, h.D, fun c hc => ⟨(h.H c hc).1, Nat.lt_of_lt_of_le (h.H c hc).2 hb.size⟩, h.s⟩

theorem freeL_vac : ∀ (gs : List Nat) (i : Nat), freeL i (gs.map vacLV) = (List.range' i gs.length).map Int.ofNat
  | [], i => rfl
  | g :: t, i => by
    have ih := freeL_vac t (i + 1)
    simp only [List.map_cons, freeL, List.length_cons, List.range'_succ]
    rw [ih]; rfl
theorem freeL_up {gs : List Nat} {n : Nat} (h : gs.length = n) : freeL 0 (gs.map vacLV) = upTo n := by
  rw [freeL_vac, h]; unfold upTo; rw [List.range_eq_range']
theorem vals_vac {gs : List Nat} {n : Nat} (h : gs.length = n) : (gs.map vacLV).map LV.val = List.replicate n vacV := by
  subst h
  induction gs with
  | nil => rfl
  | cons a t ih => simp only [List.map_cons, List.length_cons, List.replicate_succ]; rw [ih]; rfl

/-- What both give: the code, the number of dimensions, how many places. -/
def NewIs (d r cd D : Int) (N : Nat) : Prop := groundF d r = cd ∧ (cd = 0 → D = d ∧ N = r.toNat ∧ N ≤ 40) ∧ (cd ≠ 0 → D = 0 ∧ N = 0)
theorem newIs_ex (d r : Int) : ∃ cd D N, NewIs d r cd D N := by
  by_cases h : groundF d r = 0
  · refine ⟨0, d, r.toNat, h, fun _ => ⟨rfl, rfl, ?_⟩, fun h => absurd rfl h⟩
    unfold groundF at h
    split at h
    · split at h
      · omega
      · omega
    · omega
  · exact ⟨_, 0, 0, rfl, fun h' => absurd h' h, fun _ => ⟨rfl, rfl⟩⟩
theorem owns_none (w : World) (base size : Nat) (e : TypeId) : w.ownsRow base e size (.slice none 0 0) 0 [] := ⟨by simp, Or.inl ⟨rfl, rfl⟩⟩

theorem vacRow_flat (n : Nat) : (List.replicate n vacNV).flatMap NV.cells = vacRow n := by
  unfold vacRow
  rw [List.flatMap_def, List.map_replicate]; rfl
theorem specNew_is (d r cd D : Int) (N : Nat) (w : World) (h : NewIs d r cd D N) :
    Calls Tryz.prog 32 #[.int .i64 d, .int .i64 r] w fun e w' => ∃ A1 c1 A2 c2, e = .returned (.agg #[.int .i64 cd, .int .i64 D, .slice A1 N c1, .slice A2 N c2, .slice none 0 0, .int .i64 0]) ∧ ArenaL w' A1 A2 none N N 0 (List.replicate N vacNV) (upTo N) [] ∧ Below w.heap.size w w' := by
  refine (specNewArena_any d r w).mono fun e w' hp => ?_
  obtain ⟨B, hp⟩ := hp
  obtain ⟨h1, h2, h3⟩ := h
  replace h1 : newF d r = cd := h1
  rw [h1] at hp
  rcases hp with ⟨hc, rfl⟩ | ⟨rfl, A1, c1, A2, c2, rfl, hN, hF⟩
  · obtain ⟨rfl, rfl⟩ := h3 hc
    exact ⟨_, _, _, _, rfl, vac_list (c1 := 0) (c2 := 0) (owns_none _ 0 _ _) (owns_none _ 0 _ _) (fun q hq => by simp at hq) (by omega), B⟩
  · obtain ⟨rfl, rfl, hm⟩ := h2 rfl
    exact ⟨_, _, _, _, rfl, vac_list (by rw [vacRow_flat]; exact hN) hF (fun q hq => by rw [List.eq_of_mem_replicate hq]; exact ⟨rfl, rfl⟩) hm, B⟩

theorem implNew_is (d r cd D : Int) (N : Nat) (w : World) (h : NewIs d r cd D N) :
    Calls Tryz.prog 35 #[.int .i64 d, .int .i64 r] w fun e w' => ∃ A1 c1 A2 c2 qs, e = .returned (.agg #[.int .i64 cd, .int .i64 D, .slice A1 N c1, .slice A2 N c2, .slice none 0 0, .int .i64 0]) ∧ VacAr w' w.heap.size A1 A2 N qs ∧ qs.map NV.val = (List.replicate N vacNV).map NV.val ∧ Below w.heap.size w w' := by
  refine (implNewArena_any d r w).mono fun e w' hp => ?_
  obtain ⟨B, hp⟩ := hp
  obtain ⟨h1, h2, h3⟩ := h
  rw [h1] at hp
  rcases hp with ⟨hc, rfl⟩ | ⟨rfl, base, kf, vN, vF, qs, gs, rfl, hb, hg, hN, hF, hd, hv⟩
  · obtain ⟨rfl, rfl⟩ := h3 hc
    exact ⟨none, 0, none, 0, [], rfl, vac_ours (owns_none _ _ _ _) (owns_none _ _ _ _) (fun q hq => by simp at hq) (by omega) (fun b e => by simp [Value.ownBlock] at e), rfl, B⟩
  · obtain ⟨rfl, rfl, hm⟩ := h2 rfl
    rw [freeL_up hg] at hF
    rw [vals_vac hg] at hv
    obtain rfl : kf = r.toNat := by have := hF.1; simp [upTo] at this; omega
    obtain ⟨A1, c1, rfl⟩ := ownsRow_slice hN.S
    obtain ⟨A2, c2, rfl⟩ := ownsRow_slice hF
    refine ⟨A1, c1, A2, c2, qs, rfl, vac_ours (ownsRow_low hN.S hb) (ownsRow_low hF hb) (fun q hq => ?_) hm (fun b e => (hd b e).1), by rw [hv, List.map_replicate]; rfl, B⟩
    have hq1 : q.val ∈ List.replicate r.toNat vacV := by rw [← hv]; exact List.mem_map_of_mem hq
    have hq2 := List.eq_of_mem_replicate hq1
    have he : q.es = [] := by
      have := congrArg (fun v : NVal => v.2.2.2) hq2
      simpa [NV.val, vacV] using this
    exact ⟨he, by have := (hN.Q q hq).len; rw [he] at this; simpa using this.symm⟩

end Go.Proofs.YtpgoildfjkokiaaGreat
