/- The walks of impl.slot's entry and impl.nodeBody's node: slots become entries in memory of their own. -/
import Derived.Test.YtmoogdlbfadnaaaSlotWalks
import Derived.Test.YtmoogdlbfadnaaaNodeRes
import Derived.Test.YtmoogdlbfadnaaaBoxMath
namespace Go.Proofs.Ytmoogdlbfadnaaa
open Go.RowKit

set_option maxHeartbeats 1600000 in
theorem slotEntry_any (p0 p1 p2 q0 q1 q2 ref nsn d : Int) (n : Nat) (xs ys : List Int) (w : World) (hp : Pad xs p0 p1 p2) (hq : Pad ys q0 q1 q2) (hn : xs.length = n) (hm : ys.length = n) (hd : d = n) :
    Calls Try.prog 207 #[.agg #[.int .i64 p0, .int .i64 p1, .int .i64 p2, .int .i64 q0, .int .i64 q1, .int .i64 q2, .int .i64 ref, .int .i64 nsn], .int .i64 d] w fun e w' => ∃ g g', e = .returned (.agg #[.slice (some ⟨g, 0, none⟩) n n, .slice (some ⟨g', 0, none⟩) n n, .int .i64 ref, .int .i64 nsn]) ∧ Own w' g n xs ∧ Own w' g' n ys ∧ w.heap.size ≤ g ∧ g < g' ∧ Below w.heap.size w w' := by
  have HP := Lib.hid hp
  have HQ := Lib.hid hq
  have HN := Lib.hid hn
  have HM := Lib.hid hm
  have HD := Lib.hid hd
  clear hp hq hn hm hd
  have B0 := Lib.hid (below_alloc w (.cells #[.int .i64 p0, .int .i64 p1, .int .i64 p2, .int .i64 q0, .int .i64 q1, .int .i64 q2, .int .i64 ref, .int .i64 nsn] 201))
  replace B0 := Lib.hid (B0.out.alloc B0.out.size (.cells #[.slice none 0 0, .slice none 0 0, .int .i64 0, .int .i64 0] 101))
  have L0 := Lib.hid ((Lies.new w 201 #[.int .i64 p0, .int .i64 p1, .int .i64 p2, .int .i64 q0, .int .i64 q1, .int .i64 q2, .int .i64 ref, .int .i64 nsn]).alloc (.cells #[.slice none 0 0, .slice none 0 0, .int .i64 0, .int .i64 0] 101))
  have L1 := Lib.hid (Lies.new (w.alloc (.cells #[.int .i64 p0, .int .i64 p1, .int .i64 p2, .int .i64 q0, .int .i64 q1, .int .i64 q2, .int .i64 ref, .int .i64 nsn] 201)) 101 #[.slice none 0 0, .slice none 0 0, .int .i64 0, .int .i64 0])
  simp only [World.size_alloc] at L1
  go_enter Try.func207, Try.ntmps207
  go_wp2
  generalize hW : ((w.alloc (.cells #[.int .i64 p0, .int .i64 p1, .int .i64 p2, .int .i64 q0, .int .i64 q1, .int .i64 q2, .int .i64 ref, .int .i64 nsn] 201)).alloc (.cells #[.slice none 0 0, .slice none 0 0, .int .i64 0, .int .i64 0] 101)) = W0 at *
  clear hW
  have K0 : W0.cell? ⟨w.heap.size, 0, none⟩ = some (.int .i64 p0) ∧ W0.cell? ⟨w.heap.size, 1, none⟩ = some (.int .i64 p1) ∧ W0.cell? ⟨w.heap.size, 2, none⟩ = some (.int .i64 p2) ∧ W0.cell? ⟨w.heap.size, 3, none⟩ = some (.int .i64 q0) ∧ W0.cell? ⟨w.heap.size, 4, none⟩ = some (.int .i64 q1) ∧ W0.cell? ⟨w.heap.size, 5, none⟩ = some (.int .i64 q2) ∧ W0.cell? ⟨w.heap.size, 6, none⟩ = some (.int .i64 ref) ∧ W0.cell? ⟨w.heap.size, 7, none⟩ = some (.int .i64 nsn) := ⟨L0.out.cell 0, L0.out.cell 1, L0.out.cell 2, L0.out.cell 3, L0.out.cell 4, L0.out.cell 5, L0.out.cell 6, L0.out.cell 7⟩
  go_region_held3 (fun w' => w'.cell? ⟨w.heap.size, 0, none⟩ = some (.int .i64 p0) ∧ w'.cell? ⟨w.heap.size, 1, none⟩ = some (.int .i64 p1) ∧ w'.cell? ⟨w.heap.size, 2, none⟩ = some (.int .i64 p2) ∧ w'.cell? ⟨w.heap.size, 3, none⟩ = some (.int .i64 q0) ∧ w'.cell? ⟨w.heap.size, 4, none⟩ = some (.int .i64 q1) ∧ w'.cell? ⟨w.heap.size, 5, none⟩ = some (.int .i64 q2) ∧ w'.cell? ⟨w.heap.size, 6, none⟩ = some (.int .i64 ref) ∧ w'.cell? ⟨w.heap.size, 7, none⟩ = some (.int .i64 nsn))
    (first | (simp [go_sem, K0]; done) | with_reducible exact K1 | (simp [go_sem, K1]; done))
    (first
      | (go_at_call 139; refine (rect_any p0 p1 p2 q0 q1 q2 d n xs ys _ HP.out HQ.out HN.out HM.out HD.out).mono ?_
         rintro e W1 ⟨g, g', rfl, o1, o2, lg, lg', b1d⟩
         have b1 := below_drawn b1d
         have K1 : W1.cell? ⟨w.heap.size, 0, none⟩ = some (.int .i64 p0) ∧ W1.cell? ⟨w.heap.size, 1, none⟩ = some (.int .i64 p1) ∧ W1.cell? ⟨w.heap.size, 2, none⟩ = some (.int .i64 p2) ∧ W1.cell? ⟨w.heap.size, 3, none⟩ = some (.int .i64 q0) ∧ W1.cell? ⟨w.heap.size, 4, none⟩ = some (.int .i64 q1) ∧ W1.cell? ⟨w.heap.size, 5, none⟩ = some (.int .i64 q2) ∧ W1.cell? ⟨w.heap.size, 6, none⟩ = some (.int .i64 ref) ∧ W1.cell? ⟨w.heap.size, 7, none⟩ = some (.int .i64 nsn) := ⟨(L0.out.kept b1 L0.out.inside).cell 0, (L0.out.kept b1 L0.out.inside).cell 1, (L0.out.kept b1 L0.out.inside).cell 2, (L0.out.kept b1 L0.out.inside).cell 3, (L0.out.kept b1 L0.out.inside).cell 4, (L0.out.kept b1 L0.out.inside).cell 5, (L0.out.kept b1 L0.out.inside).cell 6, (L0.out.kept b1 L0.out.inside).cell 7⟩
         have z0 : W1.cell? ⟨w.heap.size + 1, 0, none⟩ = some (.slice none 0 0) := (L1.out.kept b1 L1.out.inside).cell 0
         have z1 : W1.cell? ⟨w.heap.size + 1, 1, none⟩ = some (.slice none 0 0) := (L1.out.kept b1 L1.out.inside).cell 1
         have z2 : W1.cell? ⟨w.heap.size + 1, 2, none⟩ = some (.int .i64 0) := (L1.out.kept b1 L1.out.inside).cell 2
         have z3 : W1.cell? ⟨w.heap.size + 1, 3, none⟩ = some (.int .i64 0) := (L1.out.kept b1 L1.out.inside).cell 3
         have y0 : W1.frozen? ⟨w.heap.size + 1, 0, none⟩ = false := (L1.out.kept b1 L1.out.inside).thawed 0
         have y1 : W1.frozen? ⟨w.heap.size + 1, 1, none⟩ = false := (L1.out.kept b1 L1.out.inside).thawed 1
         have y2 : W1.frozen? ⟨w.heap.size + 1, 2, none⟩ = false := (L1.out.kept b1 L1.out.inside).thawed 2
         have y3 : W1.frozen? ⟨w.heap.size + 1, 3, none⟩ = false := (L1.out.kept b1 L1.out.inside).thawed 3
         have lg2 : W0.heap.size ≤ g := lg
         clear b1d lg))
  have hin := L1.out.inside
  have O1 := Lib.hid o1
  have O2 := Lib.hid o2
  clear o1 o2
  go_wp2
  refine bodyPost_ret (v := .agg #[.slice (some ⟨g, 0, none⟩) n n, .slice (some ⟨g', 0, none⟩) n n, .int .i64 ref, .int .i64 nsn]) (by simp [results, Try.results207, go_sem, z0, z1, z2, z3]) rfl ⟨g, g', rfl, ?_, ?_, by omega, lg', ?_⟩
  · with_reducible (repeat (first | exact O1.out | refine Own.far ?_ ?_ _))
    all_goals (show g ≠ w.heap.size + 1; omega)
  · with_reducible (repeat (first | exact O2.out | refine Own.far ?_ ?_ _))
    all_goals (show g' ≠ w.heap.size + 1; omega)
  · have BE := B0.out.trans (b1.mono B0.out.size)
    repeat (with_reducible refine Below.setCell ?_ (by exact Nat.le_succ _) _)
    exact BE

theorem Coords.lower {w : World} {base base' : Nat} {qs : List EV} (h : Coords w base qs) (hb : base' ≤ base) : Coords w base' qs := by
  intro q hq
  obtain ⟨g1, g2, a1, a2, a3, a4, a5, a6, o1, o2⟩ := h q hq
  exact ⟨g1, g2, a1, a2, by omega, by omega, a5, a6, o1, o2⟩
theorem EntriesRes.lower {w : World} {base base' n c : Nat} {A : Option Addr} {qs : List EV} (h : EntriesRes w base A n c qs) (hb : base' ≤ base) : EntriesRes w base' A n c qs := by
  refine ⟨⟨h.S.1, ?_⟩, h.C.lower hb, h.D, h.E⟩
  rcases h.S.2 with h1 | ⟨g, cap, cur, h1, h2, h3⟩
  · exact Or.inl h1
  · exact Or.inr ⟨g, cap, cur, h1, by omega, h3⟩
theorem EntriesRes.farLow {w : World} {base n c : Nat} {A : Option Addr} {qs : List EV} (h : EntriesRes w base A n c qs) {a : Addr} (ha : a.block < base) (v : Value) : EntriesRes (w.setCell a v) base A n c qs := by
  refine ⟨ownsRow_far2 h.S ha v, h.C.others (fun x hx => heap_setCell_other w a x v (fun e => by have := (h.C.inside x hx).1; omega)), h.D, h.E⟩

/-- Where node's loop stands. -/
structure Noded (w wr : World) (bd : Array Value) (lv ns rt : Int) (k : Nat) (qs : List EV) (v : Value) : Prop where
  b : Below w.heap.size w wr
  m : Lies wr w.heap.size 199 bd
  r : Lies wr (w.heap.size + 1) 32 #[.int .i64 0, .int .i64 0, .int .i64 0, .slice none 0 0]
  o : Lies wr (w.heap.size + 1 + 1) 32 #[.int .i64 lv, .int .i64 ns, .int .i64 rt, v]
  S : wr.ownsRow (w.heap.size + 1 + 1 + 1) 101 4 v k (qs.flatMap EV.cells)
  C : Coords wr (w.heap.size + 1 + 1 + 1) qs
  D : (coords qs).Nodup
  E : ∀ g, v.ownBlock = some g → g ∉ coords qs

section
variable {w wr : World} {bd : Array Value} {lv ns rt : Int} {k : Nat} {qs : List EV} {v : Value}
theorem Noded.drew (h : Noded w wr bd lv ns rt k qs v) : Noded w wr.drew bd lv ns rt k qs v := ⟨h.b.drew, h.m, h.r, h.o, h.S.drew, h.C, h.D, h.E⟩
theorem Noded.alloc (h : Noded w wr bd lv ns rt k qs v) (o : Obj) : Noded w (wr.alloc o) bd lv ns rt k qs v := ⟨h.b.alloc h.b.size o, h.m.alloc o, h.r.alloc o, h.o.alloc o, h.S.alloc o, h.C.kept (below_alloc _ _), h.D, h.E⟩
theorem Noded.call {W : World} (h : Noded w wr bd lv ns rt k qs v) (hb : Below wr.heap.size wr W) : Noded w W bd lv ns rt k qs v := ⟨h.b.trans (hb.mono h.b.size), h.m.kept hb h.m.inside, h.r.kept hb h.r.inside, h.o.kept hb h.o.inside, ownsRow_below h.S hb, h.C.kept hb, h.D, h.E⟩
theorem Noded.mid {w1 : World} (h : Noded w wr bd lv ns rt k qs v) (hg : wr.grownBy w1 v.ownBlock) : Lies w1 (w.heap.size + 1 + 1) 32 #[.int .i64 lv, .int .i64 ns, .int .i64 rt, v] :=
  (hg.block _ h.o.inside (fun e => by have := (ownsRow_block2 h.S _ e.symm).1; omega)).trans h.o
/-- One entry more, with two rows of its own that are new. -/
theorem Noded.put {w0 w1 : World} {g cap g1 g2 dd : Nat} {ref nsn : Int} {x1 x2 : List Int} (h : Noded w w0 bd lv ns rt k qs v) (hb : Below w0.heap.size w0 wr) (hwr : wr.heap.size ≤ w1.heap.size) (o1 : Own wr g1 dd x1) (o2 : Own wr g2 dd x2) (l1 : w0.heap.size ≤ g1) (l2 : g1 < g2) (hd : dd ≤ 3)
    (ho : w1.ownsRow (w.heap.size + 1 + 1 + 1) 101 4 (.slice (some ⟨g, 0, none⟩) (k + 1) cap) (k + 1) (qs.flatMap EV.cells ++ EV.cells ⟨some ⟨g1, 0, none⟩, dd, dd, some ⟨g2, 0, none⟩, dd, dd, ref, nsn, x1, x2⟩)) (hg : wr.grownBy w1 v.ownBlock) (hat : v.ownBlock = some g ∨ wr.heap.size ≤ g) :
    Noded w (w1.setCell ⟨w.heap.size + 1 + 1, 3, none⟩ (.slice (some ⟨g, 0, none⟩) (k + 1) cap)) bd lv ns rt (k + 1) (qs ++ [⟨some ⟨g1, 0, none⟩, dd, dd, some ⟨g2, 0, none⟩, dd, dd, ref, nsn, x1, x2⟩]) (.slice (some ⟨g, 0, none⟩) (k + 1) cap) := by
  have h' := h.call hb
  have hbk := ownsRow_block2 h.S
  have hsz := h.o.inside
  have i1 := o1.inside
  have i2 := o2.inside
  have ci := h.C.inside
  have nr : ∀ x, x < w.heap.size + 1 + 1 + 1 → some x ≠ v.ownBlock := fun x hx e => by have := (hbk x e.symm).1; omega
  have keepRow : ∀ {gx m : Nat} {zs : List Int}, Own wr gx m zs → gx < wr.heap.size → some gx ≠ v.ownBlock → gx ≠ w.heap.size + 1 + 1 → Own (w1.setCell ⟨w.heap.size + 1 + 1, 3, none⟩ (.slice (some ⟨g, 0, none⟩) (k + 1) cap)) gx m zs :=
    fun hz hx hne hno => Own.far ⟨hz.1, hz.2.of_block (hg.block _ hx hne)⟩ hno _
  have cs : coords (qs ++ [(⟨some ⟨g1, 0, none⟩, dd, dd, some ⟨g2, 0, none⟩, dd, dd, ref, nsn, x1, x2⟩ : EV)]) = coords qs ++ [g1, g2] := by simp [coords, blk]
  have nv1 : some g1 ≠ v.ownBlock := fun e => by have := (hbk g1 e.symm).2; omega
  have nv2 : some g2 ≠ v.ownBlock := fun e => by have := (hbk g2 e.symm).2; omega
  refine ⟨(below_grown2 h'.b hg (fun r e => by have := (hbk r e).1; omega) h'.b.size).setCell (by show w.heap.size ≤ w.heap.size + 1 + 1; omega) _, ?_, ?_, (h'.mid hg).set 3 _, ?_, ?_, ?_, ?_⟩
  · exact Lies.far ((hg.block _ h'.m.inside (nr _ (by omega))).trans h'.m) (by show w.heap.size ≠ w.heap.size + 1 + 1; omega) _
  · exact Lies.far ((hg.block _ h'.r.inside (nr _ (by omega))).trans h'.r) (by show w.heap.size + 1 ≠ w.heap.size + 1 + 1; omega) _
  · rw [List.flatMap_append]
    have : ([(⟨some ⟨g1, 0, none⟩, dd, dd, some ⟨g2, 0, none⟩, dd, dd, ref, nsn, x1, x2⟩ : EV)].flatMap EV.cells) = EV.cells ⟨some ⟨g1, 0, none⟩, dd, dd, some ⟨g2, 0, none⟩, dd, dd, ref, nsn, x1, x2⟩ := by simp
    rw [this]
    exact ownsRow_far2 ho (by show w.heap.size + 1 + 1 < _; omega) _
  · intro q hq
    rcases List.mem_append.1 hq with hq | hq
    · obtain ⟨ga, gb, a1, a2, a3, a4, a5, a6, oa, ob⟩ := h'.C q hq
      have hm := coords_mem hq
      rw [a1, a2] at hm
      exact ⟨ga, gb, a1, a2, a3, a4, a5, a6, keepRow oa oa.inside (fun e => h.E ga e.symm hm.1) (by omega), keepRow ob ob.inside (fun e => h.E gb e.symm hm.2) (by omega)⟩
    · simp only [List.mem_singleton] at hq
      subst hq
      exact ⟨g1, g2, rfl, rfl, by omega, by omega, hd, hd, keepRow o1 i1 nv1 (by omega), keepRow o2 i2 nv2 (by omega)⟩
  · rw [cs, List.nodup_append]
    refine ⟨h.D, by simp; omega, fun a ha b hb' => ?_⟩
    have := (ci a ha).2
    simp only [List.mem_cons, List.not_mem_nil, or_false] at hb'
    rcases hb' with rfl | rfl <;> omega
  · intro gg hgg
    simp only [Value.ownBlock, Option.some.injEq] at hgg
    subst hgg
    rw [cs]
    simp only [List.mem_append, List.mem_cons, List.not_mem_nil, or_false, not_or]
    rcases hat with hat | hat
    · have := (hbk g hat).2
      exact ⟨h.E g hat, by omega, by omega⟩
    · have hs0 := hb.size
      exact ⟨fun hx => by have := (ci g hx).2; omega, by omega, by omega⟩
end
theorem Noded.start (w : World) (bd : Array Value) (lv ns rt : Int) : Noded w (((w.alloc (.cells bd 199)).alloc (.cells #[.int .i64 0, .int .i64 0, .int .i64 0, .slice none 0 0] 32)).alloc (.cells #[.int .i64 lv, .int .i64 ns, .int .i64 rt, .slice none 0 0] 32)) bd lv ns rt 0 [] (.slice none 0 0) := by
  have h1 := Lies.new (w.alloc (.cells bd 199)) 32 #[.int .i64 0, .int .i64 0, .int .i64 0, .slice none 0 0]
  have h2 := Lies.new ((w.alloc (.cells bd 199)).alloc (.cells #[.int .i64 0, .int .i64 0, .int .i64 0, .slice none 0 0] 32)) 32 #[.int .i64 lv, .int .i64 ns, .int .i64 rt, .slice none 0 0]
  simp only [World.size_alloc] at h1 h2
  have B := below_alloc w (.cells bd 199)
  have B2 := B.alloc B.size (.cells #[.int .i64 0, .int .i64 0, .int .i64 0, .slice none 0 0] 32)
  exact ⟨B2.alloc B2.size _, ((Lies.new w _ _).alloc _).alloc _, h1.alloc _, h2, ⟨rfl, Or.inl ⟨rfl, rfl⟩⟩, fun q hq => by simp at hq, List.nodup_nil, fun g h => by simp [Value.ownBlock] at h⟩

set_option maxRecDepth 100000 in
set_option maxHeartbeats 6400000 in
theorem bodyNode_any (d lv ns rt : Int) (n c dd : Nat) (A : Option Addr) (vs : List EVal) (ss : List SL) (w : World) (hp : Slots w A n ss) (ho : SlotsOf vs ss) (hn : n ≤ 6) (hl : LensE dd vs) (hd : d = dd) (hd3 : dd ≤ 3) :
    Calls Try.prog 201 #[.agg #[.int .i64 d, .int .i64 lv, .int .i64 ns, .int .i64 rt, .slice A n c]] w fun e w' => ∃ A' c' qs, e = .returned (.agg #[.int .i64 lv, .int .i64 ns, .int .i64 rt, .slice A' n c']) ∧ EntriesRes w' w.heap.size A' n c' qs ∧ qs.map EV.val = vs ∧ Below w.heap.size w w' := by
  have HP := Lib.hid hp
  have HO := Lib.hid ho
  have HE := Lib.hid hl
  have HL : Hid (vs.length = n) := ho.1.symm.trans hp.1
  have HD := Lib.hid hd
  clear hp ho hl hd
  obtain ⟨i0, hi0, hz0, hz1, hz2⟩ := info_entry4
  have IP := Lib.hid (And.intro hi0 (And.intro hz0 (And.intro hz1 hz2)))
  clear hi0 hz0 hz1 hz2
  go_enter Try.func201, Try.ntmps201
  go_wp2
  go_loopw [16] (fun i wr => ∃ (k : Nat) (v : Value) (qs : List EV), k ≤ n ∧ i = .int .i64 k ∧ Hid (Noded w wr #[.int .i64 d, .int .i64 lv, .int .i64 ns, .int .i64 rt, .slice A n c] lv ns rt k qs v) ∧ Hid (qs.map EV.val = vs.take k)) (fun i _ => n - (intOf i).toNat)
  case atStart => exact ⟨0, .slice none 0 0, [], Nat.zero_le _, rfl, Noded.start w _ _ _ _, rfl⟩
  case round =>
    obtain ⟨k, v, qs, hk, rfl, hU, hV⟩ := hrel
    by_cases hlt : k < n
    · obtain ⟨b, o, p0, p1, p2, q0, q1, q2, ref, nsn, rfl, hb, d0, d1, d2, d3, d4, d5, d6, d7, hx⟩ := HP.out.cellAt hlt
      have e0 : wr.cell? ⟨b, o + k * 8, none⟩ = some (.int .i64 p0) := (hU.out.b.cell (p := ⟨b, o + k * 8, none⟩) hb).trans d0
      have e1 : wr.cell? ⟨b, o + k * 8 + 1, none⟩ = some (.int .i64 p1) := (hU.out.b.cell (p := ⟨b, o + k * 8 + 1, none⟩) hb).trans d1
      have e2 : wr.cell? ⟨b, o + k * 8 + 2, none⟩ = some (.int .i64 p2) := (hU.out.b.cell (p := ⟨b, o + k * 8 + 2, none⟩) hb).trans d2
      have e3 : wr.cell? ⟨b, o + k * 8 + 3, none⟩ = some (.int .i64 q0) := (hU.out.b.cell (p := ⟨b, o + k * 8 + 3, none⟩) hb).trans d3
      have e4 : wr.cell? ⟨b, o + k * 8 + 4, none⟩ = some (.int .i64 q1) := (hU.out.b.cell (p := ⟨b, o + k * 8 + 4, none⟩) hb).trans d4
      have e5 : wr.cell? ⟨b, o + k * 8 + 5, none⟩ = some (.int .i64 q2) := (hU.out.b.cell (p := ⟨b, o + k * 8 + 5, none⟩) hb).trans d5
      have e6 : wr.cell? ⟨b, o + k * 8 + 6, none⟩ = some (.int .i64 ref) := (hU.out.b.cell (p := ⟨b, o + k * 8 + 6, none⟩) hb).trans d6
      have e7 : wr.cell? ⟨b, o + k * 8 + 7, none⟩ = some (.int .i64 nsn) := (hU.out.b.cell (p := ⟨b, o + k * 8 + 7, none⟩) hb).trans d7
      clear d0 d1 d2 d3 d4 d5 d6 d7
      obtain ⟨ev, hev, hso⟩ := HO.out.at hx.out
      obtain ⟨x1, x2, ref', nsn'⟩ := ev
      obtain ⟨hp1, hq1, hr1, hn1⟩ := hso
      simp only at hr1 hn1 hp1 hq1
      subst hr1 hn1
      have hls := HE.out k _ hev
      simp only at hls
      have H1 := Lib.hid hp1
      have H2 := Lib.hid hq1
      have HLS := Lib.hid hls
      have hV' := fun (g1 g2 : Nat) => Lib.hid (show (qs ++ [(⟨some ⟨g1, 0, none⟩, dd, dd, some ⟨g2, 0, none⟩, dd, dd, ref, nsn, x1, x2⟩ : EV)]).map EV.val = vs.take (k + 1) by rw [List.map_append, hV.out, List.take_add_one, hev]; rfl)
      clear hx hev hp1 hq1 hls
      go_wp2
      clear e0 e1 e2 e3 e4 e5 e6 e7 hV
      generalize hW : (wr.alloc (.cells #[.int .i64 p0, .int .i64 p1, .int .i64 p2, .int .i64 q0, .int .i64 q1, .int .i64 q2, .int .i64 ref, .int .i64 nsn] 201)) = W0 at *
      have hU0 : Hid (Noded w W0 #[.int .i64 d, .int .i64 lv, .int .i64 ns, .int .i64 rt, .slice (some ⟨b, o, none⟩) n c] lv ns rt k qs v) := by rw [← hW]; exact hU.out.alloc _
      have hE : Hid (Lies W0 wr.heap.size 201 #[.int .i64 p0, .int .i64 p1, .int .i64 p2, .int .i64 q0, .int .i64 q1, .int .i64 q2, .int .i64 ref, .int .i64 nsn]) := by rw [← hW]; exact Lies.new _ _ _
      clear hW hU
      have k4 : W0.cell? ⟨w.heap.size + 1 + 1, 3, none⟩ = some v := hU0.out.o.cell 3
      have kd : W0.cell? ⟨w.heap.size, 0, none⟩ = some (.int .i64 d) := hU0.out.m.cell 0
      have kE0 : W0.cell? ⟨wr.heap.size, 0, none⟩ = some (.int .i64 p0) := hE.out.cell 0
      have kE1 : W0.cell? ⟨wr.heap.size, 1, none⟩ = some (.int .i64 p1) := hE.out.cell 1
      have kE2 : W0.cell? ⟨wr.heap.size, 2, none⟩ = some (.int .i64 p2) := hE.out.cell 2
      have kE3 : W0.cell? ⟨wr.heap.size, 3, none⟩ = some (.int .i64 q0) := hE.out.cell 3
      have kE4 : W0.cell? ⟨wr.heap.size, 4, none⟩ = some (.int .i64 q1) := hE.out.cell 4
      have kE5 : W0.cell? ⟨wr.heap.size, 5, none⟩ = some (.int .i64 q2) := hE.out.cell 5
      have kE6 : W0.cell? ⟨wr.heap.size, 6, none⟩ = some (.int .i64 ref) := hE.out.cell 6
      have kE7 : W0.cell? ⟨wr.heap.size, 7, none⟩ = some (.int .i64 nsn) := hE.out.cell 7
      go_region_law
        (first
          | (apply step_append_lies (s := .tmp 21) (x := .tmp 26) (t := 30) (base := w.heap.size + 1 + 1 + 1) (e := 101) (i := i0) (z := .agg #[.slice none 0 0, .slice none 0 0, .int .i64 0, .int .i64 0]) (size := 4) (bytes := 64) (v := v) (n := k) (xs := qs.flatMap EV.cells) (ad := ⟨W1.heap.size, 0, none⟩) (m := 1) (c := 1) (news := [.slice (some ⟨g1, 0, none⟩) dd dd, .slice (some ⟨g2, 0, none⟩) dd dd, .int .i64 ref, .int .i64 nsn]) (H := W1.heap.size + 1)
             case hgd => rfl
             case ho => rfl
             case ht => exact Try.underlying30
             case hi => exact IP.out.1
             case hz => exact IP.out.2.1
             case hsize => exact IP.out.2.2.1
             case hby => exact IP.out.2.2.2
             case hzs => rfl
             case hsz => omega
             case hs => rfl
             case hown => with_reducible (repeat (first | exact hU1.out.S | refine World.ownsRow.drew ?_ | refine World.ownsRow.alloc ?_ _))
             case hx => rfl
             case hl => rfl
             case hnews => exact World.news_of_block (cs := #[.slice (some ⟨g1, 0, none⟩) dd dd, .slice (some ⟨g2, 0, none⟩) dd dd, .int .i64 ref, .int .i64 nsn]) (t := 101) (fr := (0, 0)) (by (with_reducible (repeat (refine Lies.drew ?_))); exact Lies.laid rfl)
             case h1 => simp [Value.oneCell']
             case hm => omega
             case h63 => unfold maxLen; omega
             case hbytes => omega
             case hbase => simp only [size_of_drew, World.size_alloc]; omega
             case hH => simp only [size_of_drew, World.size_alloc]
             intro gg cap w1 hown1 hgrow hat hlt1
             have hS1 : Lies w1 (w.heap.size + 1 + 1) 32 #[.int .i64 lv, .int .i64 ns, .int .i64 rt, v] := by
               refine Noded.mid (bd := #[.int .i64 d, .int .i64 lv, .int .i64 ns, .int .i64 rt, .slice (some ⟨b, o, none⟩) n c]) (k := k) (qs := qs) ?_ hgrow
               with_reducible (repeat (first | exact hU1.out | refine Noded.drew ?_ | refine Noded.alloc ?_ _))
             have hS2 : Hid (Noded w (w1.setCell ⟨w.heap.size + 1 + 1, 3, none⟩ (.slice (some ⟨gg, 0, none⟩) (k + 1) cap)) #[.int .i64 d, .int .i64 lv, .int .i64 ns, .int .i64 rt, .slice (some ⟨b, o, none⟩) n c] lv ns rt (k + 1) (qs ++ [⟨some ⟨g1, 0, none⟩, dd, dd, some ⟨g2, 0, none⟩, dd, dd, ref, nsn, x1, x2⟩]) (.slice (some ⟨gg, 0, none⟩) (k + 1) cap)) := by
               refine Noded.put (w0 := W0) hU0.out ?_ hgrow.size ?_ ?_ lg1 lg2 hd3 hown1 hgrow (hat.imp id fun h => ?_)
               · with_reducible (repeat (first | exact hbW.out | refine Below.drew ?_ | refine Below.alloc ?_ hbS _))
               · with_reducible (repeat (first | exact O_1.out | refine Own.drew' ?_ | refine Own.alloc ?_ _))
               · with_reducible (repeat (first | exact O_2.out | refine Own.drew' ?_ | refine Own.alloc ?_ _))
               · simp only [size_of_drew, World.size_alloc]; omega
             have s0 : w1.cell? ⟨w.heap.size + 1 + 1, 3, none⟩ = some v := hS1.cell 3
             have s1 : w1.frozen? ⟨w.heap.size + 1 + 1, 3, none⟩ = false := hS1.thawed 3)
          | (go_simp; go_at_call 207; refine (slotEntry_any p0 p1 p2 q0 q1 q2 ref nsn d dd x1 x2 _ H1.out H2.out HLS.out.1 HLS.out.2 HD.out).mono ?_
             rintro e W1 ⟨g1, g2, rfl, o1, o2, lg1d, lg2, b1d⟩
             have lg1 : W0.heap.size ≤ g1 := lg1d
             have b1 := below_drawn b1d
             have hbW := Lib.hid b1
             have hbS := b1.size
             have O_1 := Lib.hid o1
             have O_2 := Lib.hid o2
             have hU1 := Lib.hid (hU0.out.call b1)
             have l4 : W1.cell? ⟨w.heap.size + 1 + 1, 3, none⟩ = some v := hU1.out.o.cell 3
             have hsz1 : w.heap.size + 1 + 1 < W1.heap.size := hU1.out.o.inside
             have ne1 : ¬ w.heap.size + 1 + 1 = W1.heap.size := by omega
             have ne2 : ¬ W1.heap.size = w.heap.size + 1 + 1 := by omega
             clear b1 b1d o1 o2 lg1d
             dsimp only))
      all_goals
        have hV2 := hV' g1 g2
        go_wp2
        go_roundw
        case rel => exact ⟨k + 1, _, _, by omega, by go_num, hS2, hV2⟩
        case measure => simp [intOf]; omega
    · have hkn : k = n := by omega
      subst hkn
      have HV : Hid (qs.map EV.val = vs) := by
        have := hV.out
        rwa [List.take_of_length_le (by rw [HL.out]; omega)] at this
      obtain ⟨A', c', hv⟩ : ∃ A' c', v = .slice A' k c' := by
        rcases hU.out.S.2 with ⟨e, e2⟩ | ⟨g, cap, cur, e, _⟩
        · subst e2; exact ⟨none, 0, e⟩
        · exact ⟨_, _, e⟩
      subst hv
      have y0 : wr.cell? ⟨w.heap.size + 1 + 1, 0, none⟩ = some (.int .i64 lv) := hU.out.o.cell 0
      have y1 : wr.cell? ⟨w.heap.size + 1 + 1, 1, none⟩ = some (.int .i64 ns) := hU.out.o.cell 1
      have y2 : wr.cell? ⟨w.heap.size + 1 + 1, 2, none⟩ = some (.int .i64 rt) := hU.out.o.cell 2
      have y3 : wr.cell? ⟨w.heap.size + 1 + 1, 3, none⟩ = some (.slice A' k c') := hU.out.o.cell 3
      have z0 : wr.cell? ⟨w.heap.size + 1, 0, none⟩ = some (.int .i64 0) := hU.out.r.cell 0
      have z1 : wr.cell? ⟨w.heap.size + 1, 1, none⟩ = some (.int .i64 0) := hU.out.r.cell 1
      have z2 : wr.cell? ⟨w.heap.size + 1, 2, none⟩ = some (.int .i64 0) := hU.out.r.cell 2
      have z3 : wr.cell? ⟨w.heap.size + 1, 3, none⟩ = some (.slice none 0 0) := hU.out.r.cell 3
      have f0 : wr.frozen? ⟨w.heap.size + 1, 0, none⟩ = false := hU.out.r.thawed 0
      have f1 : wr.frozen? ⟨w.heap.size + 1, 1, none⟩ = false := hU.out.r.thawed 1
      have f2 : wr.frozen? ⟨w.heap.size + 1, 2, none⟩ = false := hU.out.r.thawed 2
      have f3 : wr.frozen? ⟨w.heap.size + 1, 3, none⟩ = false := hU.out.r.thawed 3
      have RS : Hid (EntriesRes wr (w.heap.size + 1 + 1 + 1) A' k c' qs) := ⟨hU.out.S, hU.out.C, hU.out.D, hU.out.E⟩
      go_wp2
      refine bodyPost_ret (v := .agg #[.int .i64 lv, .int .i64 ns, .int .i64 rt, .slice A' k c']) (by simp [results, Try.results201, go_sem, z0, z1, z2, z3]) rfl ⟨A', c', qs, rfl, ?_, HV.out, ?_⟩
      · exact ((((RS.out.farLow (by show w.heap.size + 1 < _; omega) _).farLow (by show w.heap.size + 1 < _; omega) _).farLow (by show w.heap.size + 1 < _; omega) _).farLow (by show w.heap.size + 1 < _; omega) _).lower (by omega)
      · with_reducible (repeat (first | exact hU.out.b | refine Below.setCell ?_ ?_ _))
        all_goals (show w.heap.size ≤ w.heap.size + 1; omega)

end Go.Proofs.Ytmoogdlbfadnaaa
