/- The walks of impl.slot's entry, impl.bunch's entries and impl.nodeBody's node: slots become entries in memory of their own. -/
import Derived.Test.YtpgoildfjkokiaaGreatSlotWalks
import Derived.Test.YtpgoildfjkokiaaGreatNodeRes
import Derived.Test.YtpgoildfjkokiaaGreatBoxMath
import Derived.Test.YtpgoildfjkokiaaGreatLayAll
import Derived.Test.YtpgoildfjkokiaaGreatSpecLoops
namespace Go.Proofs.YtpgoildfjkokiaaGreat
open Go.RowKit

set_option maxHeartbeats 1600000 in
theorem slotEntry_any (p0 p1 p2 q0 q1 q2 ref nsn d : Int) (n : Nat) (xs ys : List Int) (w : World) (hp : Pad xs p0 p1 p2) (hq : Pad ys q0 q1 q2) (hn : xs.length = n) (hm : ys.length = n) (hd : d = n) :
    Calls Tryz.prog 174 #[.agg #[.int .i64 p0, .int .i64 p1, .int .i64 p2, .int .i64 q0, .int .i64 q1, .int .i64 q2, .int .i64 ref, .int .i64 nsn], .int .i64 d] w fun e w' => ∃ g g', e = .returned (.agg #[.slice (some ⟨g, 0, none⟩) n n, .slice (some ⟨g', 0, none⟩) n n, .int .i64 ref, .int .i64 nsn]) ∧ Own w' g n xs ∧ Own w' g' n ys ∧ w.heap.size ≤ g ∧ g < g' ∧ Below w.heap.size w w' := by
  have HP := Lib.hid hp
  have HQ := Lib.hid hq
  have HN := Lib.hid hn
  have HM := Lib.hid hm
  have HD := Lib.hid hd
  clear hp hq hn hm hd
  have B0 := Lib.hid (below_alloc w (.cells #[.int .i64 p0, .int .i64 p1, .int .i64 p2, .int .i64 q0, .int .i64 q1, .int .i64 q2, .int .i64 ref, .int .i64 nsn] 181))
  replace B0 := Lib.hid (B0.out.alloc B0.out.size (.cells #[.slice none 0 0, .slice none 0 0, .int .i64 0, .int .i64 0] 150))
  have L0 := Lib.hid ((Lies.new w 181 #[.int .i64 p0, .int .i64 p1, .int .i64 p2, .int .i64 q0, .int .i64 q1, .int .i64 q2, .int .i64 ref, .int .i64 nsn]).alloc (.cells #[.slice none 0 0, .slice none 0 0, .int .i64 0, .int .i64 0] 150))
  have L1 := Lib.hid (Lies.new (w.alloc (.cells #[.int .i64 p0, .int .i64 p1, .int .i64 p2, .int .i64 q0, .int .i64 q1, .int .i64 q2, .int .i64 ref, .int .i64 nsn] 181)) 150 #[.slice none 0 0, .slice none 0 0, .int .i64 0, .int .i64 0])
  simp only [World.size_alloc] at L1
  go_enter Tryz.func174, Tryz.ntmps174
  go_wp2
  generalize hW : ((w.alloc (.cells #[.int .i64 p0, .int .i64 p1, .int .i64 p2, .int .i64 q0, .int .i64 q1, .int .i64 q2, .int .i64 ref, .int .i64 nsn] 181)).alloc (.cells #[.slice none 0 0, .slice none 0 0, .int .i64 0, .int .i64 0] 150)) = W0 at *
  clear hW
  have K0 : W0.cell? ⟨w.heap.size, 0, none⟩ = some (.int .i64 p0) ∧ W0.cell? ⟨w.heap.size, 1, none⟩ = some (.int .i64 p1) ∧ W0.cell? ⟨w.heap.size, 2, none⟩ = some (.int .i64 p2) ∧ W0.cell? ⟨w.heap.size, 3, none⟩ = some (.int .i64 q0) ∧ W0.cell? ⟨w.heap.size, 4, none⟩ = some (.int .i64 q1) ∧ W0.cell? ⟨w.heap.size, 5, none⟩ = some (.int .i64 q2) ∧ W0.cell? ⟨w.heap.size, 6, none⟩ = some (.int .i64 ref) ∧ W0.cell? ⟨w.heap.size, 7, none⟩ = some (.int .i64 nsn) := ⟨L0.out.cell 0, L0.out.cell 1, L0.out.cell 2, L0.out.cell 3, L0.out.cell 4, L0.out.cell 5, L0.out.cell 6, L0.out.cell 7⟩
  go_region_held3 (fun w' => w'.cell? ⟨w.heap.size, 0, none⟩ = some (.int .i64 p0) ∧ w'.cell? ⟨w.heap.size, 1, none⟩ = some (.int .i64 p1) ∧ w'.cell? ⟨w.heap.size, 2, none⟩ = some (.int .i64 p2) ∧ w'.cell? ⟨w.heap.size, 3, none⟩ = some (.int .i64 q0) ∧ w'.cell? ⟨w.heap.size, 4, none⟩ = some (.int .i64 q1) ∧ w'.cell? ⟨w.heap.size, 5, none⟩ = some (.int .i64 q2) ∧ w'.cell? ⟨w.heap.size, 6, none⟩ = some (.int .i64 ref) ∧ w'.cell? ⟨w.heap.size, 7, none⟩ = some (.int .i64 nsn))
    (first | (simp [go_sem, K0]; done) | with_reducible exact K1 | (simp [go_sem, K1]; done))
    (first
      | (go_at_call 175; refine (rect_any p0 p1 p2 q0 q1 q2 d n xs ys _ HP.out HQ.out HN.out HM.out HD.out).mono ?_
         rintro e W1 ⟨g, g', rfl, o1, o2, lg, lg', b1d⟩
         have b1 := below_drawn b1d
         have K1 : W1.cell? ⟨w.heap.size, 0, none⟩ = some (.int .i64 p0) ∧ W1.cell? ⟨w.heap.size, 1, none⟩ = some (.int .i64 p1) ∧ W1.cell? ⟨w.heap.size, 2, none⟩ = some (.int .i64 p2) ∧ W1.cell? ⟨w.heap.size, 3, none⟩ = some (.int .i64 q0) ∧ W1.cell? ⟨w.heap.size, 4, none⟩ = some (.int .i64 q1) ∧ W1.cell? ⟨w.heap.size, 5, none⟩ = some (.int .i64 q2) ∧ W1.cell? ⟨w.heap.size, 6, none⟩ = some (.int .i64 ref) ∧ W1.cell? ⟨w.heap.size, 7, none⟩ = some (.int .i64 nsn) := ⟨(L0.out.kept b1 L0.out.inside).cell 0, (L0.out.kept b1 L0.out.inside).cell 1, (L0.out.kept b1 L0.out.inside).cell 2, (L0.out.kept b1 L0.out.inside).cell 3, (L0.out.kept b1 L0.out.inside).cell 4, (L0.out.kept b1 L0.out.inside).cell 5, (L0.out.kept b1 L0.out.inside).cell 6, (L0.out.kept b1 L0.out.inside).cell 7⟩
         have z0 : W1.cell? ⟨w.heap.size + 1, 0, none⟩ = some (.slice none 0 0) := (L1.out.kept b1 L1.out.inside).cell 0
         have z1 : W1.cell? ⟨w.heap.size + 1, 1, none⟩ = some (.slice none 0 0) := (L1.out.kept b1 L1.out.inside).cell 1
         have z2 : W1.cell? ⟨w.heap.size + 1, 2, none⟩ = some (.int .i64 0) := (L1.out.kept b1 L1.out.inside).cell 2
         have z3 : W1.cell? ⟨w.heap.size + 1, 3, none⟩ = some (.int .i64 0) := (L1.out.kept b1 L1.out.inside).cell 3
         have y0 : W1.frozen? ⟨w.heap.size + 1, 0, none⟩ = false := (L1.out.kept b1 L1.out.inside).thawed 0
         have y1 : W1.frozen? ⟨w.heap.size + 1, 1, none⟩ = false := (L1.out.kept b1 L1.out.inside).thawed 1
         have y2 : W1.frozen? ⟨w.heap.size + 1, 2, none⟩ = false := (L1.out.kept b1 L1.out.inside).thawed 2
         have y3 : W1.frozen? ⟨w.heap.size + 1, 3, none⟩ = false := (L1.out.kept b1 L1.out.inside).thawed 3
         have lg2 : W0.heap.size ≤ g := lg
         clear b1d lg))
  have hin := L1.out.inside
  have O1 := Lib.hid o1
  have O2 := Lib.hid o2
  clear o1 o2
  go_wp2
  refine bodyPost_ret (v := .agg #[.slice (some ⟨g, 0, none⟩) n n, .slice (some ⟨g', 0, none⟩) n n, .int .i64 ref, .int .i64 nsn]) (by simp [results, Tryz.results174, go_sem, z0, z1, z2, z3]) rfl ⟨g, g', rfl, ?_, ?_, by omega, lg', ?_⟩
  · with_reducible (repeat (first | exact O1.out | refine Own.far ?_ ?_ _))
    all_goals (show g ≠ w.heap.size + 1; omega)
  · with_reducible (repeat (first | exact O2.out | refine Own.far ?_ ?_ _))
    all_goals (show g' ≠ w.heap.size + 1; omega)
  · have BE := B0.out.trans (b1.mono B0.out.size)
    repeat (with_reducible refine Below.setCell ?_ (by exact Nat.le_succ _) _)
    exact BE

theorem Coords.lower {w : World} {base base' : Nat} {qs : List EV} (h : Coords w base qs) (hb : base' ≤ base) : Coords w base' qs := by
  intro q hq
  obtain ⟨g1, g2, a1, a2, a3, a4, a5, a6, o1, o2⟩ := h q hq
  exact ⟨g1, g2, a1, a2, by omega, by omega, a5, a6, o1, o2⟩
theorem EntriesRes.lower {w : World} {base base' n c : Nat} {A : Option Addr} {qs : List EV} (h : EntriesRes w base A n c qs) (hb : base' ≤ base) : EntriesRes w base' A n c qs := by
  refine ⟨⟨h.S.1, ?_⟩, h.C.lower hb, h.D, h.E⟩
  rcases h.S.2 with h1 | ⟨g, cap, cur, h1, h2, h3⟩
  · exact Or.inl h1
  · exact Or.inr ⟨g, cap, cur, h1, by omega, h3⟩
theorem EntriesRes.farLow {w : World} {base n c : Nat} {A : Option Addr} {qs : List EV} (h : EntriesRes w base A n c qs) {a : Addr} (ha : a.block < base) (v : Value) : EntriesRes (w.setCell a v) base A n c qs := by
  refine ⟨ownsRow_far2 h.S ha v, h.C.others (fun x hx => heap_setCell_other w a x v (fun e => by have := (h.C.inside x hx).1; omega)), h.D, h.E⟩

/-- Where the loop of entries stands. -/
structure Entried (w wr : World) (bd : Array Value) (k : Nat) (qs : List EV) (v : Value) : Prop where
  b : Below w.heap.size w wr
  m : Lies wr w.heap.size 161 bd
  S : wr.ownsRow (w.heap.size + 1) 150 4 v k (qs.flatMap EV.cells)
  C : Coords wr (w.heap.size + 1) qs
  D : (coords qs).Nodup
  E : ∀ g, v.ownBlock = some g → g ∉ coords qs

section
variable {w wr : World} {bd : Array Value} {k : Nat} {qs : List EV} {v : Value}
theorem Entried.drew (h : Entried w wr bd k qs v) : Entried w wr.drew bd k qs v := ⟨h.b.drew, h.m, h.S.drew, h.C, h.D, h.E⟩
theorem Entried.alloc (h : Entried w wr bd k qs v) (o : Obj) : Entried w (wr.alloc o) bd k qs v := ⟨h.b.alloc h.b.size o, h.m.alloc o, h.S.alloc o, h.C.kept (below_alloc _ _), h.D, h.E⟩
theorem Entried.call {W : World} (h : Entried w wr bd k qs v) (hb : Below wr.heap.size wr W) : Entried w W bd k qs v := ⟨h.b.trans (hb.mono h.b.size), h.m.kept hb h.m.inside, ownsRow_below h.S hb, h.C.kept hb, h.D, h.E⟩
/-- One entry more, with two rows of its own that are new. -/
theorem Entried.put {w0 w1 : World} {g cap g1 g2 dd : Nat} {ref nsn : Int} {x1 x2 : List Int} (h : Entried w w0 bd k qs v) (hb : Below w0.heap.size w0 wr) (hwr : wr.heap.size ≤ w1.heap.size) (o1 : Own wr g1 dd x1) (o2 : Own wr g2 dd x2) (l1 : w0.heap.size ≤ g1) (l2 : g1 < g2) (hd : dd ≤ 3)
    (ho : w1.ownsRow (w.heap.size + 1) 150 4 (.slice (some ⟨g, 0, none⟩) (k + 1) cap) (k + 1) (qs.flatMap EV.cells ++ EV.cells ⟨some ⟨g1, 0, none⟩, dd, dd, some ⟨g2, 0, none⟩, dd, dd, ref, nsn, x1, x2⟩)) (hg : wr.grownBy w1 v.ownBlock) (hat : v.ownBlock = some g ∨ wr.heap.size ≤ g) :
    Entried w w1 bd (k + 1) (qs ++ [⟨some ⟨g1, 0, none⟩, dd, dd, some ⟨g2, 0, none⟩, dd, dd, ref, nsn, x1, x2⟩]) (.slice (some ⟨g, 0, none⟩) (k + 1) cap) := by
  have h' := h.call hb
  have hbk := ownsRow_block2 h.S
  have hsz := h.m.inside
  have i1 := o1.inside
  have i2 := o2.inside
  have ci := h.C.inside
  have nr : ∀ x, x < w.heap.size + 1 → some x ≠ v.ownBlock := fun x hx e => by have := (hbk x e.symm).1; omega
  have keepRow : ∀ {gx m : Nat} {zs : List Int}, Own wr gx m zs → gx < wr.heap.size → some gx ≠ v.ownBlock → Own w1 gx m zs :=
    fun hz hx hne => ⟨hz.1, hz.2.of_block (hg.block _ hx hne)⟩
  have cs : coords (qs ++ [(⟨some ⟨g1, 0, none⟩, dd, dd, some ⟨g2, 0, none⟩, dd, dd, ref, nsn, x1, x2⟩ : EV)]) = coords qs ++ [g1, g2] := by simp [coords, blk]
  have nv1 : some g1 ≠ v.ownBlock := fun e => by have := (hbk g1 e.symm).2; omega
  have nv2 : some g2 ≠ v.ownBlock := fun e => by have := (hbk g2 e.symm).2; omega
  refine ⟨below_grown2 h'.b hg (fun r e => by have := (hbk r e).1; omega) h'.b.size, (hg.block _ h'.m.inside (nr _ (by omega))).trans h'.m, ?_, ?_, ?_, ?_⟩
  · rw [List.flatMap_append]
    have : ([(⟨some ⟨g1, 0, none⟩, dd, dd, some ⟨g2, 0, none⟩, dd, dd, ref, nsn, x1, x2⟩ : EV)].flatMap EV.cells) = EV.cells ⟨some ⟨g1, 0, none⟩, dd, dd, some ⟨g2, 0, none⟩, dd, dd, ref, nsn, x1, x2⟩ := by simp
    rw [this]
    exact ho
  · intro q hq
    rcases List.mem_append.1 hq with hq | hq
    · obtain ⟨ga, gb, a1, a2, a3, a4, a5, a6, oa, ob⟩ := h'.C q hq
      have hm := coords_mem hq
      rw [a1, a2] at hm
      exact ⟨ga, gb, a1, a2, a3, a4, a5, a6, keepRow oa oa.inside (fun e => h.E ga e.symm hm.1), keepRow ob ob.inside (fun e => h.E gb e.symm hm.2)⟩
    · simp only [List.mem_singleton] at hq
      subst hq
      exact ⟨g1, g2, rfl, rfl, by omega, by omega, hd, hd, keepRow o1 i1 nv1, keepRow o2 i2 nv2⟩
  · rw [cs, List.nodup_append]
    refine ⟨h.D, by simp; omega, fun a ha b hb' => ?_⟩
    have := (ci a ha).2
    simp only [List.mem_cons, List.not_mem_nil, or_false] at hb'
    rcases hb' with rfl | rfl <;> omega
  · intro gg hgg
    simp only [Value.ownBlock, Option.some.injEq] at hgg
    subst hgg
    rw [cs]
    simp only [List.mem_append, List.mem_cons, List.not_mem_nil, or_false, not_or]
    rcases hat with hat | hat
    · have := (hbk g hat).2
      exact ⟨h.E g hat, by omega, by omega⟩
    · have hs0 := hb.size
      exact ⟨fun hx => by have := (ci g hx).2; omega, by omega, by omega⟩
end
theorem Entried.start (w : World) (bd : Array Value) : Entried w (w.alloc (.cells bd 161)) bd 0 [] (.slice none 0 0) :=
  ⟨below_alloc _ _, Lies.new w _ _, ⟨rfl, Or.inl ⟨rfl, rfl⟩⟩, fun q hq => by simp at hq, List.nodup_nil, fun g h => by simp [Value.ownBlock] at h⟩

set_option maxRecDepth 100000 in
set_option maxHeartbeats 6400000 in
theorem bunchEntries_any (d : Int) (n c dd : Nat) (A : Option Addr) (vs : List EVal) (ss : List SL) (w : World) (hp : Slots w A n ss) (ho : SlotsOf vs ss) (hn : n ≤ 8) (hl : LensE dd vs) (hd : d = dd) (hd3 : dd ≤ 3) :
    Calls Tryz.prog 173 #[.agg #[.int .i64 d, .slice A n c]] w fun e w' => ∃ A' c' qs, e = .returned (.slice A' n c') ∧ EntriesRes w' w.heap.size A' n c' qs ∧ qs.map EV.val = vs ∧ Below w.heap.size w w' := by
  have HP := Lib.hid hp
  have HO := Lib.hid ho
  have HE := Lib.hid hl
  have HL : Hid (vs.length = n) := ho.1.symm.trans hp.1
  have HD := Lib.hid hd
  clear hp ho hl hd
  obtain ⟨i0, hi0, hz0, hz1, hz2⟩ := info_entry4
  have IP := Lib.hid (And.intro hi0 (And.intro hz0 (And.intro hz1 hz2)))
  clear hi0 hz0 hz1 hz2
  go_enter Tryz.func173, Tryz.ntmps173
  go_wp2
  go_loopw [3, 9] (fun l i wr => ∃ (k : Nat) (v : Value) (qs : List EV), k ≤ n ∧ i = .int .i64 k ∧ v = l ∧ Hid (Entried w wr #[.int .i64 d, .slice A n c] k qs v) ∧ Hid (qs.map EV.val = vs.take k)) (fun _ i _ => n - (intOf i).toNat)
  case atStart => exact ⟨0, .slice none 0 0, [], Nat.zero_le _, rfl, rfl, Entried.start w _, rfl⟩
  case round =>
    obtain ⟨k, v, qs, hk, rfl, rfl, hU, hV⟩ := hrel
    by_cases hlt : k < n
    · obtain ⟨b, o, p0, p1, p2, q0, q1, q2, ref, nsn, rfl, hb, d0, d1, d2, d3, d4, d5, d6, d7, hx⟩ := HP.out.cellAt hlt
      have e0 : wr.cell? ⟨b, o + k * 8, none⟩ = some (.int .i64 p0) := (hU.out.b.cell (p := ⟨b, o + k * 8, none⟩) hb).trans d0
      have e1 : wr.cell? ⟨b, o + k * 8 + 1, none⟩ = some (.int .i64 p1) := (hU.out.b.cell (p := ⟨b, o + k * 8 + 1, none⟩) hb).trans d1
      have e2 : wr.cell? ⟨b, o + k * 8 + 2, none⟩ = some (.int .i64 p2) := (hU.out.b.cell (p := ⟨b, o + k * 8 + 2, none⟩) hb).trans d2
      have e3 : wr.cell? ⟨b, o + k * 8 + 3, none⟩ = some (.int .i64 q0) := (hU.out.b.cell (p := ⟨b, o + k * 8 + 3, none⟩) hb).trans d3
      have e4 : wr.cell? ⟨b, o + k * 8 + 4, none⟩ = some (.int .i64 q1) := (hU.out.b.cell (p := ⟨b, o + k * 8 + 4, none⟩) hb).trans d4
      have e5 : wr.cell? ⟨b, o + k * 8 + 5, none⟩ = some (.int .i64 q2) := (hU.out.b.cell (p := ⟨b, o + k * 8 + 5, none⟩) hb).trans d5
      have e6 : wr.cell? ⟨b, o + k * 8 + 6, none⟩ = some (.int .i64 ref) := (hU.out.b.cell (p := ⟨b, o + k * 8 + 6, none⟩) hb).trans d6
      have e7 : wr.cell? ⟨b, o + k * 8 + 7, none⟩ = some (.int .i64 nsn) := (hU.out.b.cell (p := ⟨b, o + k * 8 + 7, none⟩) hb).trans d7
      clear d0 d1 d2 d3 d4 d5 d6 d7
      obtain ⟨ev, hev, hso⟩ := HO.out.at hx.out
      obtain ⟨x1, x2, ref', nsn'⟩ := ev
      obtain ⟨hp1, hq1, hr1, hn1⟩ := hso
      simp only at hr1 hn1 hp1 hq1
      subst hr1 hn1
      have hls := HE.out k _ hev
      simp only at hls
      have H1 := Lib.hid hp1
      have H2 := Lib.hid hq1
      have HLS := Lib.hid hls
      have hV' := fun (g1 g2 : Nat) => Lib.hid (show (qs ++ [(⟨some ⟨g1, 0, none⟩, dd, dd, some ⟨g2, 0, none⟩, dd, dd, ref, nsn, x1, x2⟩ : EV)]).map EV.val = vs.take (k + 1) by rw [List.map_append, hV.out, List.take_add_one, hev]; rfl)
      clear hx hev hp1 hq1 hls
      have hU0 := Lib.hid (hU.out.alloc (.cells #[.int .i64 p0, .int .i64 p1, .int .i64 p2, .int .i64 q0, .int .i64 q1, .int .i64 q2, .int .i64 ref, .int .i64 nsn] 181))
      have kd : (wr.alloc (.cells #[.int .i64 p0, .int .i64 p1, .int .i64 p2, .int .i64 q0, .int .i64 q1, .int .i64 q2, .int .i64 ref, .int .i64 nsn] 181)).cell? ⟨w.heap.size, 0, none⟩ = some (.int .i64 d) := hU0.out.m.cell 0
      clear hU hV
      go_wp2_with fail
      refine (slotEntry_any p0 p1 p2 q0 q1 q2 ref nsn d dd x1 x2 _ H1.out H2.out HLS.out.1 HLS.out.2 HD.out).mono ?_
      rintro e W1 ⟨g1, g2, rfl, o1, o2, lg1, lg2, b1⟩
      have bP := Lib.hid (below_alloc W1 (.cells #[.slice (some ⟨g1, 0, none⟩) dd dd, .slice (some ⟨g2, 0, none⟩) dd dd, .int .i64 ref, .int .i64 nsn] 150))
      have LP := Lib.hid (Lies.new W1 150 #[.slice (some ⟨g1, 0, none⟩) dd dd, .slice (some ⟨g2, 0, none⟩) dd dd, .int .i64 ref, .int .i64 nsn])
      have HS7 := Lib.hid ((hU0.out.call b1).call bP.out).S
      have NEWS : Hid (∀ j u, ([.slice (some ⟨g1, 0, none⟩) dd dd, .slice (some ⟨g2, 0, none⟩) dd dd, .int .i64 ref, .int .i64 nsn] : List Value)[j]? = some u → (W1.alloc (.cells #[.slice (some ⟨g1, 0, none⟩) dd dd, .slice (some ⟨g2, 0, none⟩) dd dd, .int .i64 ref, .int .i64 nsn] 150)).cell? ((⟨W1.heap.size, 0, none⟩ : Addr).add j) = some u) := World.news_of_block (cs := #[.slice (some ⟨g1, 0, none⟩) dd dd, .slice (some ⟨g2, 0, none⟩) dd dd, .int .i64 ref, .int .i64 nsn]) (t := 150) (fr := (0, 0)) LP.out
      have O_1 := Lib.hid (o1.alloc (.cells #[.slice (some ⟨g1, 0, none⟩) dd dd, .slice (some ⟨g2, 0, none⟩) dd dd, .int .i64 ref, .int .i64 nsn] 150))
      have O_2 := Lib.hid (o2.alloc (.cells #[.slice (some ⟨g1, 0, none⟩) dd dd, .slice (some ⟨g2, 0, none⟩) dd dd, .int .i64 ref, .int .i64 nsn] 150))
      have bW := Lib.hid (b1.alloc b1.size (.cells #[.slice (some ⟨g1, 0, none⟩) dd dd, .slice (some ⟨g2, 0, none⟩) dd dd, .int .i64 ref, .int .i64 nsn] 150))
      have hsW : w.heap.size + 1 ≤ W1.heap.size := Nat.le_trans hU0.out.m.inside b1.size
      clear o1 o2 b1 bP LP kd e0 e1 e2 e3 e4 e5 e6 e7
      go_wp2_with (with_reducible refine wpList_append_lies _ rfl (.tmp 13) (.tmp 18) 40 rfl (w.heap.size + 1) 150 i0 (.agg #[.slice none 0 0, .slice none 0 0, .int .i64 0, .int .i64 0]) 4 64 Tryz.underlying40 IP.out.1 IP.out.2.1 IP.out.2.2.1 IP.out.2.2.2 rfl (by omega) v k (qs.flatMap EV.cells) rfl HS7.out ⟨W1.heap.size, 0, none⟩ 1 1 [.slice (some ⟨g1, 0, none⟩) dd dd, .slice (some ⟨g2, 0, none⟩) dd dd, .int .i64 ref, .int .i64 nsn] rfl rfl NEWS.out ?q2 (by omega) ?q3 ?q4 ?q5 (W1.heap.size + 1) ?q6 ?_)
      case q2 => simp [Value.oneCell']
      case q3 => unfold maxLen; omega
      case q4 => omega
      case q5 => simp only [World.size_alloc]; omega
      case q6 => simp only [World.size_alloc]
      intro gg cap w1 ho hw hat hlt1
      have hS2 : Hid (Entried w w1 #[.int .i64 d, .slice (some ⟨b, o, none⟩) n c] (k + 1) (qs ++ [⟨some ⟨g1, 0, none⟩, dd, dd, some ⟨g2, 0, none⟩, dd, dd, ref, nsn, x1, x2⟩]) (.slice (some ⟨gg, 0, none⟩) (k + 1) cap)) :=
        Entried.put (w0 := wr.alloc (.cells #[.int .i64 p0, .int .i64 p1, .int .i64 p2, .int .i64 q0, .int .i64 q1, .int .i64 q2, .int .i64 ref, .int .i64 nsn] 181)) hU0.out bW.out hw.size O_1.out O_2.out lg1 lg2 hd3 ho hw (hat.imp id fun h => by simp only [World.size_alloc]; omega)
      have hV2 := hV' g1 g2
      clear ho hw hat hlt1 HS7 NEWS O_1 O_2 bW hU0
      go_wp2
      go_roundw
      case rel => exact ⟨k + 1, _, _, by omega, by go_num, rfl, hS2, hV2⟩
      case measure => simp [intOf]; omega
    · have hkn : k = n := by omega
      subst hkn
      have HV : Hid (qs.map EV.val = vs) := by
        have := hV.out
        rwa [List.take_of_length_le (by rw [HL.out]; omega)] at this
      obtain ⟨A', c', hv⟩ : ∃ A' c', v = .slice A' k c' := by
        rcases hU.out.S.2 with ⟨e, e2⟩ | ⟨g, cap, cur, e, _⟩
        · subst e2; exact ⟨none, 0, e⟩
        · exact ⟨_, _, e⟩
      subst hv
      have RS : Hid (EntriesRes wr (w.heap.size + 1) A' k c' qs) := ⟨hU.out.S, hU.out.C, hU.out.D, hU.out.E⟩
      go_wp2
      go_ret
      exact ⟨A', c', qs, rfl, RS.out.lower (by omega), HV.out, hU.out.b⟩

set_option maxRecDepth 100000 in
set_option maxHeartbeats 3200000 in
theorem bodyNode_any (d lv ns rt : Int) (n c dd : Nat) (A : Option Addr) (vs : List EVal) (ss : List SL) (w : World) (hp : Slots w A n ss) (ho : SlotsOf vs ss) (hn : n ≤ 8) (hl : LensE dd vs) (hd : d = dd) (hd3 : dd ≤ 3) :
    Calls Tryz.prog 169 #[.agg #[.int .i64 d, .slice A n c, .int .i64 lv, .int .i64 ns, .int .i64 rt]] w fun e w' => ∃ A' c' qs, e = .returned (.agg #[.int .i64 lv, .int .i64 ns, .int .i64 rt, .slice A' n c']) ∧ EntriesRes w' w.heap.size A' n c' qs ∧ qs.map EV.val = vs ∧ Below w.heap.size w w' := by
  have HP := Lib.hid hp
  have HO := Lib.hid ho
  have HE := Lib.hid hl
  have HD := Lib.hid hd
  clear hp ho hl hd
  have B0 := Lib.hid (below_alloc w (.cells #[.int .i64 d, .slice A n c, .int .i64 lv, .int .i64 ns, .int .i64 rt] 164))
  replace B0 := Lib.hid (B0.out.alloc B0.out.size (.cells #[.int .i64 0, .int .i64 0, .int .i64 0, .slice none 0 0] 42))
  have L0 := Lib.hid ((Lies.new w 164 #[.int .i64 d, .slice A n c, .int .i64 lv, .int .i64 ns, .int .i64 rt]).alloc (.cells #[.int .i64 0, .int .i64 0, .int .i64 0, .slice none 0 0] 42))
  have L1 := Lib.hid (Lies.new (w.alloc (.cells #[.int .i64 d, .slice A n c, .int .i64 lv, .int .i64 ns, .int .i64 rt] 164)) 42 #[.int .i64 0, .int .i64 0, .int .i64 0, .slice none 0 0])
  simp only [World.size_alloc] at L1
  go_enter Tryz.func169, Tryz.ntmps169
  go_wp2
  generalize hW : ((w.alloc (.cells #[.int .i64 d, .slice A n c, .int .i64 lv, .int .i64 ns, .int .i64 rt] 164)).alloc (.cells #[.int .i64 0, .int .i64 0, .int .i64 0, .slice none 0 0] 42)) = W0 at *
  clear hW
  have K0 : W0.cell? ⟨w.heap.size, 0, none⟩ = some (.int .i64 d) ∧ W0.cell? ⟨w.heap.size, 1, none⟩ = some (.slice A n c) ∧ W0.cell? ⟨w.heap.size, 2, none⟩ = some (.int .i64 lv) ∧ W0.cell? ⟨w.heap.size, 3, none⟩ = some (.int .i64 ns) ∧ W0.cell? ⟨w.heap.size, 4, none⟩ = some (.int .i64 rt) := ⟨L0.out.cell 0, L0.out.cell 1, L0.out.cell 2, L0.out.cell 3, L0.out.cell 4⟩
  go_region_held3 (fun w' => w'.cell? ⟨w.heap.size, 0, none⟩ = some (.int .i64 d) ∧ w'.cell? ⟨w.heap.size, 1, none⟩ = some (.slice A n c) ∧ w'.cell? ⟨w.heap.size, 2, none⟩ = some (.int .i64 lv) ∧ w'.cell? ⟨w.heap.size, 3, none⟩ = some (.int .i64 ns) ∧ w'.cell? ⟨w.heap.size, 4, none⟩ = some (.int .i64 rt))
    (first | (simp [go_sem, K0]; done) | with_reducible exact K1 | (simp [go_sem, K1]; done))
    (first
      | (go_at_call 173; refine (bunchEntries_any d n c dd A vs ss _ (HP.out.kept B0.out.drew) HO.out hn HE.out HD.out hd3).mono ?_
         rintro e W1 ⟨A', c', qs, rfl, hq, hv, b1d⟩
         have b1 := below_drawn b1d
         have K1 : W1.cell? ⟨w.heap.size, 0, none⟩ = some (.int .i64 d) ∧ W1.cell? ⟨w.heap.size, 1, none⟩ = some (.slice A n c) ∧ W1.cell? ⟨w.heap.size, 2, none⟩ = some (.int .i64 lv) ∧ W1.cell? ⟨w.heap.size, 3, none⟩ = some (.int .i64 ns) ∧ W1.cell? ⟨w.heap.size, 4, none⟩ = some (.int .i64 rt) := ⟨(L0.out.kept b1 L0.out.inside).cell 0, (L0.out.kept b1 L0.out.inside).cell 1, (L0.out.kept b1 L0.out.inside).cell 2, (L0.out.kept b1 L0.out.inside).cell 3, (L0.out.kept b1 L0.out.inside).cell 4⟩
         have z0 : W1.cell? ⟨w.heap.size + 1, 0, none⟩ = some (.int .i64 0) := (L1.out.kept b1 L1.out.inside).cell 0
         have z1 : W1.cell? ⟨w.heap.size + 1, 1, none⟩ = some (.int .i64 0) := (L1.out.kept b1 L1.out.inside).cell 1
         have z2 : W1.cell? ⟨w.heap.size + 1, 2, none⟩ = some (.int .i64 0) := (L1.out.kept b1 L1.out.inside).cell 2
         have z3 : W1.cell? ⟨w.heap.size + 1, 3, none⟩ = some (.slice none 0 0) := (L1.out.kept b1 L1.out.inside).cell 3
         have y0 : W1.frozen? ⟨w.heap.size + 1, 0, none⟩ = false := (L1.out.kept b1 L1.out.inside).thawed 0
         have y1 : W1.frozen? ⟨w.heap.size + 1, 1, none⟩ = false := (L1.out.kept b1 L1.out.inside).thawed 1
         have y2 : W1.frozen? ⟨w.heap.size + 1, 2, none⟩ = false := (L1.out.kept b1 L1.out.inside).thawed 2
         have y3 : W1.frozen? ⟨w.heap.size + 1, 3, none⟩ = false := (L1.out.kept b1 L1.out.inside).thawed 3
         have HQ : Hid (EntriesRes W1 W0.heap.size A' n c' qs) := hq
         have HV := Lib.hid hv
         clear b1d hq hv))
  have hin := L1.out.inside
  go_wp2
  refine bodyPost_ret (v := .agg #[.int .i64 lv, .int .i64 ns, .int .i64 rt, .slice A' n c']) (by simp [results, Tryz.results169, go_sem, z0, z1, z2, z3]) rfl ⟨A', c', qs, rfl, ?_, HV.out, ?_⟩
  · exact ((((HQ.out.farLow hin _).farLow hin _).farLow hin _).farLow hin _).lower (by omega)
  · have BE := B0.out.trans (b1.mono B0.out.size)
    repeat (with_reducible refine Below.setCell ?_ (by exact Nat.le_succ _) _)
    exact BE

end Go.Proofs.YtpgoildfjkokiaaGreat

/- The walks of impl.ground's last and freeAll. -/
namespace Go.Proofs.YtpgoildfjkokiaaGreat
open Go.RowKit

/-- An arena that is worked at: the block G, the places, the row of their pointers. -/
structure Grd (w : World) (lo G : Nat) (d : Int) (m o : Value) (pb cp n : Nat) (ps : List LV) : Prop where
  L : Lies w G 109 #[.int .i64 d, .slice (some ⟨pb, 0, none⟩) n cp, m, o]
  P : Places w lo d ps
  R : Ptrs w lo pb n ps
  g : G < lo
section
variable {w w' : World} {lo G pb cp n : Nat} {d : Int} {m o : Value} {ps : List LV}
theorem Grd.kept (h : Grd w lo G d m o pb cp n ps) (hb : Below w.heap.size w w') : Grd w' lo G d m o pb cp n ps :=
  ⟨h.L.kept hb h.L.inside, h.P.kept hb, ⟨h.R.l, fun k p hk => (hb.cell (p := ⟨pb, k, none⟩) h.R.i.2).trans (h.R.c k p hk), ⟨h.R.i.1, Nat.lt_of_lt_of_le h.R.i.2 hb.size⟩, h.R.x⟩, h.g⟩
theorem Laid.grd {w0 : World} {v : Value} (h : Laid w0 w lo G d m o n ps v) (hn : 0 < n) : ∃ pb cp, v = .slice (some ⟨pb, 0, none⟩) n cp ∧ Grd w lo G d m o pb cp n ps := by
  obtain ⟨hl, hs⟩ := h.S
  rw [List.length_map, Nat.mul_one] at hl
  rcases hs with ⟨e1, e2⟩ | ⟨g, cap, cur, rfl, h2, h3, h4, h5, h6, h7⟩
  · omega
  · have hb := ownsRow_block2 h.S g rfl
    refine ⟨g, cap, rfl, h.G', h.P, ⟨hl, fun k p hk => ?_, hb, h.V g rfl⟩, h.g⟩
    rw [cell_of_row w g k cur 81 (0, 0) h3]
    have hk2 : k < n := by rw [← hl]; exact (List.getElem?_eq_some_iff.1 hk).1
    have h8 : (cur.toList.take (n * 1))[k]? = some p.ptr := by rw [h7]; simp [hk]
    rw [List.getElem?_take, if_pos (by omega)] at h8
    simpa using h8
/-- One place is written anew. -/
theorem Grd.put (h : Grd w lo G d m o pb cp n ps) {i : Nat} {p p' : LV} (hi : ps[i]? = some p) (hg : p'.g = p.g) (hs : w.heap.size ≤ w'.heap.size) (hk : ∀ b, b < w.heap.size → b ≠ p.g → w'.heap[b]? = w.heap[b]?) (hp : PlaceOk w' lo d p') (hr : ∀ b, p'.row b → p.row b ∨ w.heap.size ≤ b) : Grd w' lo G d m o pb cp n (ps.set i p') := by
  have hpi := h.P.P p (List.mem_of_getElem? hi)
  have hgl := hpi.g
  have hG := h.g
  have npb : pb ≠ p.g := fun e => h.R.x p (List.mem_of_getElem? hi) (Or.inl e.symm)
  refine ⟨(hk G h.L.inside (by omega)).trans h.L, h.P.put hi hg hs hk hp hr, ⟨by rw [List.length_set]; exact h.R.l, fun k q hq => ?_, ⟨h.R.i.1, Nat.lt_of_lt_of_le h.R.i.2 hs⟩, fun q hq => ?_⟩, h.g⟩
  · rw [World.cell?_of_block (w := w) (a := ⟨pb, k, none⟩) (hk pb h.R.i.2 npb)]
    rw [List.getElem?_set] at hq
    by_cases e : i = k
    · subst e
      rw [if_pos rfl, if_pos (List.getElem?_eq_some_iff.1 hi).1] at hq
      injection hq with hq; subst hq
      rw [h.R.c i p hi]; unfold LV.ptr; rw [hg]
    · rw [if_neg e] at hq; exact h.R.c k q hq
  · rcases List.mem_or_eq_of_mem_set hq with hq | rfl
    · exact h.R.x q hq
    · rintro (e | e)
      · exact npb (e.symm.trans hg)
      · rcases hr _ e with h1 | h1
        · exact h.R.x p (List.mem_of_getElem? hi) (Or.inr h1)
        · have := h.R.i.2; omega
end

theorem same_vacant {lv ns rt : Int} {qs : List EV} {vs : List EVal} (h : qs.map EV.val = vs) : ((lv == 0) && (ns == 0) && (rt == -1) && sameL EV.val qs []) = decide ((lv, ns, rt, vs) = vacV) := by
  subst h
  unfold sameL vacV
  by_cases h1 : lv = 0 <;> by_cases h2 : ns = 0 <;> by_cases h3 : rt = -1 <;> simp [h1, h2, h3]

theorem entries_none (w : World) : Entries w none 0 [] := ⟨rfl, fun h => absurd h (Nat.lt_irrefl 0), fun q hq => by simp at hq⟩

set_option maxHeartbeats 400000 in
theorem last_any (G pb cp n : Nat) (w : World) (hc : w.cell? ⟨G, 1, none⟩ = some (.slice (some ⟨pb, 0, none⟩) n cp)) (hn : n ≤ 40) :
    Calls Tryz.prog 90 #[.pointer (some ⟨G, 0, none⟩)] w fun e w' => e = .returned (.int .i64 ((n : Int) - 1)) ∧ w = w' := by
  go_enter Tryz.func90, Tryz.ntmps90
  go_wp2
  go_ret
  exact ⟨rfl, rfl⟩

theorem hty_node (lv d ns rt : Int) (A : Option Addr) (n c : Nat) (w : World) : (method 323 (hty lv) (.agg #[.int .i64 d, .slice A n c, .int .i64 lv, .int .i64 ns, .int .i64 rt]) "loop.example/g00680/impl.node").run Tryz.prog w = .ok (169, .agg #[.int .i64 d, .slice A n c, .int .i64 lv, .int .i64 ns, .int .i64 rt]) w := by
  unfold hty
  split <;> kernel_rfl

/-- The places behind the marks: free are those that are listed. -/
def Freed (ps ps' : List LV) (fs : List Int) : Prop := ps'.length = ps.length ∧ ∀ (i : Nat) (q : LV), ps'[i]? = some q → ∃ p, ps[i]? = some p ∧ q = { p with fr := fs.contains (i : Int) }
theorem Freed.vals {ps ps' : List LV} {fs : List Int} (h : Freed ps ps' fs) : ps'.map LV.val = ps.map LV.val := by
  apply List.ext_getElem?
  intro i
  rw [List.getElem?_map, List.getElem?_map]
  cases hq : ps'[i]? with
  | none =>
    have h1 := List.getElem?_eq_none_iff.1 hq
    rw [List.getElem?_eq_none_iff.2 (by rw [← h.1]; exact h1)]
  | some q =>
    obtain ⟨p, hp, rfl⟩ := h.2 i q hq
    rw [hp]; rfl
theorem Freed.start {ps : List LV} (h : ∀ p ∈ ps, p.fr = false) : Freed ps ps [] := by
  refine ⟨rfl, fun i q hq => ⟨q, hq, ?_⟩⟩
  have := h q (List.mem_of_getElem? hq)
  cases q; simp only at this; subst this; rfl
theorem Freed.next {ps ps' : List LV} {fs : List Int} {k j : Nat} {q : LV} (h : Freed ps ps' (fs.take k)) (hk : fs[k]? = some (j : Int)) (hj : ps'[j]? = some q) : Freed ps (ps'.set j { q with fr := true }) (fs.take (k + 1)) := by
  refine ⟨by rw [List.length_set]; exact h.1, fun i r hr => ?_⟩
  rw [List.take_add_one, hk]
  rw [List.getElem?_set] at hr
  by_cases e : j = i
  · subst e
    rw [if_pos rfl, if_pos (List.getElem?_eq_some_iff.1 hj).1] at hr
    injection hr with hr; subst hr
    obtain ⟨p, hp, rfl⟩ := h.2 j q hj
    refine ⟨p, hp, ?_⟩
    simp
  · rw [if_neg e] at hr
    obtain ⟨p, hp, rfl⟩ := h.2 i r hr
    refine ⟨p, hp, ?_⟩
    have hne : ¬ (i : Int) = (j : Int) := by omega
    simp [List.contains_eq_any_beq, List.any_append, hne]

set_option maxRecDepth 100000 in
set_option maxHeartbeats 6400000 in
theorem freeAll_any (d : Int) (lo G pb cp n n2 c2 : Nat) (A2 : Option Addr) (fs : List Int) (m o : Value) (ps : List LV) (w0 w : World) (hG : Grd w lo G d m o pb cp n ps) (hnew : ∀ p ∈ ps, p.fr = false) (hI : Ints w0 0 A2 n2 fs) (hb : Below w0.heap.size w0 w) (hlo : w0.heap.size ≤ lo) (hlow : lo ≤ w.heap.size) (hn : n ≤ 40) (m2 : n2 ≤ maxLen) :
    Calls Tryz.prog 88 #[.pointer (some ⟨G, 0, none⟩), .slice A2 n2 c2] w fun e w' => e = .returned (.int .i64 (freeF (ps.map LV.val) fs)) ∧ Below lo w w' ∧ (freeF (ps.map LV.val) fs = 0 → ∃ ps', Grd w' lo G d m o pb cp n ps' ∧ Freed ps ps' fs) := by
  have HG := Lib.hid hG
  have HI := Lib.hid hI
  have HL2 : Hid (fs.length = n2) := hI.1
  have HL1 : Hid ((ps.map LV.val).length = n) := by show List.length _ = n; rw [List.length_map]; exact hG.R.l
  have B := Lib.hid hb
  have FR0 := Lib.hid (Freed.start hnew)
  have g1 : w.cell? ⟨G, 1, none⟩ = some (.slice (some ⟨pb, 0, none⟩) n cp) := hG.L.cell 1
  clear hG hI hb hnew
  have m2' := m2
  unfold maxLen at m2'
  cases hr : allIn 0 ((n : Int) - 1) fs
  · have HF : Hid (freeF (ps.map LV.val) fs = 3) := freeF_out (by rw [HL1.out]; exact hr)
    have HR := Lib.hid hr
    clear hr
    go_enter Tryz.func88, Tryz.ntmps88
    go_wp2_with fail
    refine (last_any _ _ _ _ _ g1 hn).mono ?_
    rintro e w' ⟨rfl, rfl⟩
    go_wp2_with fail
    refine (within_is _ _ _ _ _ _ fs _ false HR.out (HI.out.kept B.out) m2).mono ?_
    rintro e w' ⟨rfl, rfl⟩
    go_wp2
    go_ret
    exact ⟨ret_i64 HF.out.symm, Below.refl _ _, fun h => by rw [HF.out] at h; omega⟩
  have HR := Lib.hid hr
  clear hr
  cases hs : risesL fs
  · have HF : Hid (freeF (ps.map LV.val) fs = 1) := freeF_fall (by rw [HL1.out]; exact HR.out) hs
    have HS := Lib.hid hs
    clear hs
    go_enter Tryz.func88, Tryz.ntmps88
    go_wp2_with fail
    refine (last_any _ _ _ _ _ g1 hn).mono ?_
    rintro e w' ⟨rfl, rfl⟩
    go_wp2_with fail
    refine (within_is _ _ _ _ _ _ fs _ true HR.out (HI.out.kept B.out) m2).mono ?_
    rintro e w' ⟨rfl, rfl⟩
    go_wp2_with fail
    refine (rises_any _ _ _ _ fs _ (HI.out.kept B.out) m2).mono ?_
    rintro e W1 ⟨rfl, b1⟩
    have hB1 := Lib.hid (b1.mono hlow)
    rw [HS.out]
    clear b1
    go_wp2
    go_ret
    exact ⟨ret_i64 HF.out.symm, hB1.out, fun h => by rw [HF.out] at h; omega⟩
  have HS := Lib.hid hs
  have HRN : Hid (allIn 0 (((ps.map LV.val).length : Int) - 1) fs = true) := by show allIn _ _ _ = _; rw [HL1.out]; exact HR.out
  clear hs
  go_enter Tryz.func88, Tryz.ntmps88
  go_wp2_with fail
  refine (last_any _ _ _ _ _ g1 hn).mono ?_
  rintro e w' ⟨rfl, rfl⟩
  go_wp2_with fail
  refine (within_is _ _ _ _ _ _ fs _ true HR.out (HI.out.kept B.out) m2).mono ?_
  rintro e w' ⟨rfl, rfl⟩
  go_wp2_with fail
  refine (rises_any _ _ _ _ fs _ (HI.out.kept B.out) m2).mono ?_
  rintro e W1 ⟨rfl, b1⟩
  have hB1 := Lib.hid (b1.mono hlow)
  have hG1 := Lib.hid (HG.out.kept b1)
  rw [HS.out]
  clear b1 g1
  go_wp2
  go_loopw [17] (fun i wr => ∃ (k : Nat) (qs : List LV), k ≤ n2 ∧ i = .int .i64 k ∧ Hid (Grd wr lo G d m o pb cp n qs) ∧ Hid (Freed ps qs (fs.take k)) ∧ Hid (Below lo w wr) ∧ Hid (∀ (j : Nat) (x : Int), j < k → fs[j]? = some x → vacAt (ps.map LV.val) x = true)) (fun i _ => n2 - (intOf i).toNat)
  case atStart => exact ⟨0, ps, Nat.zero_le _, rfl, hG1, FR0, hB1, fun j x hj => absurd hj (Nat.not_lt_zero _)⟩
  case round =>
    obtain ⟨k, qs, hk', rfl, hU, hF, hB, hA⟩ := hrel
    have HBr := Lib.hid (B.out.trans (hB.out.mono hlo))
    by_cases hlt : k < n2
    · obtain ⟨b, o', x, rfl, _, hb, d0, hx⟩ := HI.out.cellAt hlt
      have hxi := allIn_get HR.out hx.out
      obtain ⟨j, rfl⟩ := Int.eq_ofNat_of_zero_le hxi.1
      have hjn : j < n := by omega
      have hjn' : (j : Int) < (n : Int) := by omega
      have hlt' : (k : Int) < (n2 : Int) := by omega
      have hql := hU.out.R.l
      obtain ⟨q, hq⟩ : ∃ q, qs[j]? = some q := ⟨_, List.getElem?_eq_getElem (by omega)⟩
      have HQ := Lib.hid hq
      have HPO := Lib.hid (hU.out.P.P q (List.mem_of_getElem? hq))
      have HX := Lib.hid hx.out
      have e0 : wr.cell? ⟨b, o' + k, none⟩ = some (.int .i64 (j : Int)) := (HBr.out.cell (p := ⟨b, o' + k, none⟩) hb).trans d0
      have g1 : wr.cell? ⟨G, 1, none⟩ = some (.slice (some ⟨pb, 0, none⟩) n cp) := hU.out.L.cell 1
      have g2 : wr.cell? ⟨pb, j, none⟩ = some (.pointer (some ⟨q.g, 0, none⟩)) := hU.out.R.c j q hq
      have g3 : wr.cell? ⟨q.g, 0, none⟩ = some (.iface (hty q.lv) (.agg #[.int .i64 d, .slice q.A q.n q.c, .int .i64 q.lv, .int .i64 q.ns, .int .i64 q.rt])) := HPO.out.L.cell 0
      have hm1 := hty_node q.lv d q.ns q.rt q.A q.n q.c
      have hqg := HPO.out.g
      obtain ⟨hok, h5, hent, _, _⟩ := nodeF_zero HPO.out.N
      have hq5 : q.n ≤ 5 := by have h1 := HPO.out.O.1; have h2 := HPO.out.S.1; omega
      have HE := Lib.hid (lens_of hent)
      have hd2 : 2 ≤ d := hok.1.1
      have hd3 : d ≤ 3 := hok.1.2
      have HVA : Hid (vacAt (ps.map LV.val) (j : Int) = decide ((q.lv, q.ns, q.rt, q.vs) = vacV)) := by
        show vacAt _ _ = _
        rw [← hF.out.vals]
        exact vacAt_is (v := q.val) (by rw [List.getElem?_map, hq]; rfl)
      clear d0 hx hq hok h5 hent hxi
      go_wp2_with fail
      refine (bodyNode_any d q.lv q.ns q.rt q.n q.c d.toNat q.A q.vs q.ss _ HPO.out.S HPO.out.O (by omega) HE.out (by omega) (by omega)).mono ?_
      rintro e W2 ⟨A', c', es, rfl, rs, vq, b2⟩
      have hU2 := Lib.hid (hU.out.kept b2)
      have hB2 := Lib.hid (hB.out.trans (b2.mono (by have := hB.out.size; omega)))
      have ER := Lib.hid rs.entries
      have VQ := Lib.hid vq
      clear b2 rs vq e0 g1 g2 g3 hm1 HPO
      go_wp2_with fail
      refine (vacantNode_any _).mono ?_
      rintro e W3 ⟨rfl, b3⟩
      have hU3 := Lib.hid (hU2.out.kept b3)
      have hB3 := Lib.hid (hB2.out.trans (b3.mono (by have := hB2.out.size; omega)))
      replace ER := Lib.hid (ER.out.kept b3)
      clear b3 hU2 hB2
      go_wp2_with fail
      refine (sameNode_any q.lv q.ns q.rt 0 0 (-1) q.n c' 0 0 A' none es [] _ ER.out (entries_none _) (Nat.le_trans hq5 (by decide)) (Nat.zero_le _)).mono ?_
      rintro e W4 ⟨rfl, b4⟩
      rw [same_vacant VQ.out]
      have hU4 := Lib.hid (hU3.out.kept b4)
      have hB4 := Lib.hid (hB3.out.trans (b4.mono (by have := hB3.out.size; omega)))
      clear b4 hU3 hB3 ER
      cases hv : decide ((q.lv, q.ns, q.rt, q.vs) = vacV)
      · have HF : Hid (freeF (ps.map LV.val) fs = 1) := freeF_full HRN.out HX.out (by rw [HVA.out]; exact hv)
        clear hv hA hF hU hB
        go_wp2
        go_ret
        exact ⟨ret_i64 HF.out.symm, hB4.out, fun h => by rw [HF.out] at h; omega⟩
      · have hA' := Lib.hid (upto_next (P := fun x => vacAt (ps.map LV.val) x = true) hA.out HX.out (by rw [HVA.out]; exact hv))
        have hF' := Lib.hid (hF.out.next HX.out HQ.out)
        have hPQ := Lib.hid (hU4.out.P.P q (List.mem_of_getElem? HQ.out))
        have g1 : W4.cell? ⟨G, 1, none⟩ = some (.slice (some ⟨pb, 0, none⟩) n cp) := hU4.out.L.cell 1
        have g2 : W4.cell? ⟨pb, j, none⟩ = some (.pointer (some ⟨q.g, 0, none⟩)) := hU4.out.R.c j q HQ.out
        have g3 : W4.cell? ⟨q.g, 1, none⟩ = some (.bool q.fr) := hPQ.out.L.cell 1
        have f3 : W4.frozen? ⟨q.g, 1, none⟩ = false := hPQ.out.L.thawed 1
        have hU5 : Hid (Grd (W4.setCell ⟨q.g, 1, none⟩ (.bool true)) lo G d m o pb cp n (qs.set j { q with fr := true })) := by
          have hk5 : ∀ b, b < W4.heap.size → b ≠ q.g → (W4.setCell ⟨q.g, 1, none⟩ (.bool true)).heap[b]? = W4.heap[b]? := fun b _ hne => heap_setCell_other W4 ⟨q.g, 1, none⟩ b _ hne
          have hs5 : W4.heap.size ≤ (W4.setCell ⟨q.g, 1, none⟩ (.bool true)).heap.size := Nat.le_of_eq (size_of_setCell _ _ _).symm
          have hy := hPQ.out.Y
          refine hU4.out.put HQ.out rfl hs5 hk5 ?_ (fun b h => Or.inl h)
          refine ⟨hPQ.out.L.set 1 _, hPQ.out.S.block hPQ.out.F hs5 (fun b h0 e => hk5 b (Fresh.in_slots hPQ.out.S h0 e) (fun e' => hy (Or.inl ⟨h0, e' ▸ e⟩))), hPQ.out.O, hPQ.out.N, hPQ.out.W.blockF hPQ.out.E hs5 (fun b h0 e => hk5 b (Fresh.in_ints hPQ.out.W h0 e) (fun e' => hy (Or.inr ⟨h0, e' ▸ e⟩))), hPQ.out.g, hPQ.out.F, hPQ.out.E, hy, hPQ.out.ownW (fun b h0 e => hk5 b (Fresh.in_ints hPQ.out.W h0 e) (fun e' => hy (Or.inr ⟨h0, e' ▸ e⟩)))⟩
        have hB5 := Lib.hid (hB4.out.setCell (p := ⟨q.g, 1, none⟩) hqg (.bool true))
        clear hv hA hF hU hB hPQ hU4 hB4 HVA HBr
        go_wp2
        go_roundw
        case rel => exact ⟨k + 1, _, by omega, by go_num, hU5, hF', hB5, hA'⟩
        case measure => simp [intOf]; omega
    · have HF : Hid (freeF (ps.map LV.val) fs = 0) := freeF_zero HRN.out HS.out (upto_end hA.out (by rw [HL2.out]; omega))
      have hFF : Hid (Freed ps qs fs) := by have := hF.out; rwa [List.take_of_length_le (by rw [HL2.out]; omega)] at this
      clear hA hF
      go_wp2
      go_ret
      exact ⟨ret_i64 HF.out.symm, hB.out, fun _ => ⟨qs, hU.out, hFF.out⟩⟩

end Go.Proofs.YtpgoildfjkokiaaGreat
