/- The bridge between a row's reading of its arguments and the words of my walks: a slice of numbers that is read as data reads as a list of numbers. No condition. -/
import Derived.Test.YtpgoildfjkokiaaGreatRects
import Derived.ProofKit
import Derived.OpenShut
import Derived.ShutString
import Derived.ChangeOld
import Derived.Below
import Derived.Lib.SmallJoins
import Derived.Test.YtpgoildfjkokiaaGreatEntryLists
import Derived.Deep.Slices
import Derived.Deep.Strs
import Derived.ChangeSame
import Derived.Test.YtpgoildfjkokiaaGreatNodeLists
import Derived.Test.YtpgoildfjkokiaaGreatArenas
namespace Go.Proofs.YtpgoildfjkokiaaGreat
open Go.ChangeShapes Go.WideShapes Go.ChangeAt Go.RowKit Go.Joins

theorem ownKnobTry : ownKnob Tryz.prog.godebug = none := by kernel_rfl
theorem laidOutTry : laidOutB Tryz.prog = true := by kernel_rfl
theorem cellsI64 : Tryz.prog.cellsOf 2 = 1 := by kernel_rfl

theorem ints_of_trod {H : Type} {enc : TypeId × Value → H} {W : World} {fuel : Nat} {v : Value} {y : DataW H × List MemPlace}
    (h : DataW.trod enc Tryz.prog W 0 (fun _ => true) true fuel 23 [v] = some y) : ∃ A n c xs, v = .slice A n c ∧ Ints W 0 A n xs ∧ n ≤ maxLen := by
  rcases open_ints Tryz.underlying23 Tryz.underlying2 cellsI64 h with ⟨hcs, _⟩ | ⟨a, len, cap, zs, hcs, _, hl, hm, hz, _, hcell, _⟩
  · exact ⟨none, 0, 0, [], by simpa using hcs, Ints.empty _ _ _, Nat.zero_le _⟩
  · refine ⟨some a, len, cap, zs.take len, by simpa using hcs, ⟨?_, fun hp => ?_⟩, Nat.le_trans hl hm⟩
    · simp at hz; simp; omega
    · simp only [if_true] at hz
      obtain ⟨b, off, rfl, hc⟩ := ints_at hcell (by omega)
      refine ⟨b, off, rfl, Nat.zero_le _, ?_, fun k x hk => ?_⟩
      · exact block_lt_of_cell (a := ⟨b, off + 0, none⟩) (hc 0 (by omega))
      · have hk2 : k < len := by
          have := (List.getElem?_eq_some_iff.1 hk).1
          simp at this; omega
        rw [hc k (by omega)]
        rw [List.getElem?_take, if_pos hk2] at hk
        simp [hk]

theorem cellsRect : Tryz.prog.cellsOf 169 = 2 := by kernel_rfl

set_option maxRecDepth 100000 in
theorem rect_of_trod {H : Type} {enc : TypeId × Value → H} {W : World} {base : Nat} {v : Value} {d : DataW H} {p : List MemPlace} (hv : Value.okWide Tryz.prog W .any base 169 v)
    (h : DataW.Trod enc Tryz.prog W 0 (fun _ => true) true 169 v d p) :
    ∃ A n c A' n' c' xs ys, v = .agg #[.slice A n c, .slice A' n' c'] ∧ Ints W 0 A n xs ∧ Ints W 0 A' n' ys ∧ n ≤ maxLen ∧ n' ≤ maxLen := by
  obtain ⟨c0, c1, y0, y1, m, rfl, _, _, hy0, hy1⟩ := open_agg2 Tryz.underlying169 (by kernel_rfl) cellsRect hv h
  obtain ⟨A, n, c, xs, rfl, hx, hn⟩ := ints_of_trod hy0
  obtain ⟨A', n', c', ys, rfl, hy, hn'⟩ := ints_of_trod hy1
  exact ⟨A, n, c, A', n', c', xs, ys, rfl, hx, hy, hn, hn'⟩

theorem place_lt {H : Type} {enc : TypeId × Value → H} {W : World} {t : TypeId} {v : Value} {d : DataW H} {p : List MemPlace} (h : DataW.Trod enc Tryz.prog W 0 (fun _ => true) true t v d p) : ∀ x ∈ p, x.block < W.heap.size := by
  obtain ⟨m, hm⟩ := h
  exact DataW.trod_lt m _ _ _ hm

end Go.Proofs.YtpgoildfjkokiaaGreat

/- The bridge between a row's reading of its arguments and the words of my walks, for nodes. No condition. -/
namespace Go.Proofs.YtpgoildfjkokiaaGreat
open Go.ChangeShapes Go.WideShapes Go.ChangeAt Go.RowKit Go.Joins Go.Deep

theorem cellsIntsE : Tryz.prog.cellsOf 23 = 1 := by kernel_rfl
theorem cellsEntry : Tryz.prog.cellsOf 171 = 4 := by kernel_rfl
theorem cellsNode : Tryz.prog.cellsOf 117 = 4 := by kernel_rfl

theorem int_of_trodE {H : Type} {enc : TypeId × Value → H} {W : World} {fuel : Nat} {v : Value} {y : DataW H × List MemPlace}
    (h : DataW.trod enc Tryz.prog W 0 (fun _ => true) true fuel 2 [v] = some y) : ∃ x, v = .int .i64 x := by
  obtain ⟨a, e0, _, _⟩ := DataW.trod_int Tryz.underlying2 h
  exact ⟨a, by simpa using e0⟩

/-- One entry out of its four cells. -/
theorem entry_of_cells {H : Type} {enc : TypeId × Value → H} {W : World} {fuel : Nat} {cs : List Value} {y : DataW H × List MemPlace} (hl : cs.length = 4)
    (h : DataW.trod enc Tryz.prog W 0 (fun _ => true) true fuel 171 cs = some y) : ∃ p : EV, cs = [.slice p.A1 p.n1 p.c1, .slice p.A2 p.n2 p.c2, .int .i64 p.ref, .int .i64 p.nsn] ∧ EntryOk W p := by
  match cs, hl with
  | [v0, v1, v2, v3], _ =>
    obtain ⟨y0, y1, y2, n, _, _, h0, h1, h2⟩ := trod_struct3 Tryz.underlying171 h
    simp only [cellsI64, cellsRect, List.drop, List.take] at h0 h1 h2
    obtain ⟨z0, z1, n', _, _, k0, k1⟩ := trod_struct2 Tryz.underlying169 h0
    simp only [cellsIntsE, List.drop, List.take] at k0 k1
    obtain ⟨ref, rfl⟩ := int_of_trodE h1
    obtain ⟨nsn, rfl⟩ := int_of_trodE h2
    obtain ⟨A1, n1, c1, x1, rfl, hx1, hn1⟩ := ints_of_trod k0
    obtain ⟨A2, n2, c2, x2, rfl, hx2, hn2⟩ := ints_of_trod k1
    exact ⟨⟨A1, n1, c1, A2, n2, c2, ref, nsn, x1, x2⟩, rfl, hx1, hx2, hn1, hn2⟩

set_option maxRecDepth 100000 in
theorem entries_of_trod {H : Type} {enc : TypeId × Value → H} {W : World} {fuel : Nat} {v : Value} {y : DataW H × List MemPlace}
    (h : DataW.trod enc Tryz.prog W 0 (fun _ => true) true fuel 115 [v] = some y) : ∃ A n c ps, v = .slice A n c ∧ Entries W A n ps ∧ n ≤ maxLen := by
  rcases open_slice Tryz.underlying115 h with ⟨hcs, _⟩ | ⟨a, len, cap, m, fu, D, Pl, hcs, _, hlc, hcm, hm, _, hx⟩
  · exact ⟨none, 0, 0, [], by simpa using hcs, ⟨rfl, fun h => absurd h (Nat.lt_irrefl 0), fun p hp => by simp at hp⟩, Nat.zero_le _⟩
  · have hml : len ≤ m := by rw [hm]; simp; exact hlc
    rw [cellsEntry] at hx
    have each : ∀ i, i < len → ∃ p : EV, W.cell? (a.add (i * 4)) = some (.slice p.A1 p.n1 p.c1) ∧ W.cell? (a.add (i * 4 + 1)) = some (.slice p.A2 p.n2 p.c2) ∧ W.cell? (a.add (i * 4 + 2)) = some (.int .i64 p.ref) ∧ W.cell? (a.add (i * 4 + 3)) = some (.int .i64 p.nsn) ∧ EntryOk W p := by
      intro i hi
      obtain ⟨cs', h1, h2⟩ := hx i (by omega)
      obtain ⟨_, hlen, hcell⟩ := World.cells?_some h1
      obtain ⟨p, rfl, hp⟩ := entry_of_cells hlen h2
      have e0 := hcell 0 (by omega)
      have e1 := hcell 1 (by omega)
      have e2 := hcell 2 (by omega)
      have e3 := hcell 3 (by omega)
      rw [add_add] at e0 e1 e2 e3
      exact ⟨p, by simpa using e0, by simpa using e1, by simpa using e2, by simpa using e3, hp⟩
    have : Inhabited EV := ⟨⟨none, 0, 0, none, 0, 0, 0, 0, [], []⟩⟩
    obtain ⟨f, hf⟩ := choose_lt each
    refine ⟨some a, len, cap, (List.range len).map f, by simpa using hcs, ⟨by simp, fun hp => ?_, fun p hp => ?_⟩, Nat.le_trans hlc hcm⟩
    · obtain ⟨b, off, spot⟩ := a
      have hspot : spot = none := by simpa [Addr.add] using World.cell?_spot (hf 0 hp).1
      subst hspot
      refine ⟨b, off, rfl, ?_, fun k p hk => ?_⟩
      · have h0 := (hf 0 hp).1
        rw [Go.WideShapes.add_plain] at h0
        exact block_lt_of_cell h0
      · have hk2 : k < len := by
          have := (List.getElem?_eq_some_iff.1 hk).1
          simpa using this
        have hfk : f k = p := by
          rw [List.getElem?_map, List.getElem?_range hk2] at hk
          simpa using hk
        obtain ⟨a0, a1, a2, a3, _⟩ := hf k hk2
        rw [Go.WideShapes.add_plain] at a0 a1 a2 a3
        rw [hfk] at a0 a1 a2 a3
        exact ⟨a0, a1, a2, a3⟩
    · obtain ⟨k, hk, rfl⟩ := List.mem_map.1 hp
      exact (hf k (List.mem_range.1 hk)).2.2.2.2

set_option maxRecDepth 100000 in
theorem node_of_trod {H : Type} {enc : TypeId × Value → H} {W : World} {base : Nat} {v : Value} {d : DataW H} {p : List MemPlace} (hv : Value.okWide Tryz.prog W .any base 117 v)
    (h : DataW.Trod enc Tryz.prog W 0 (fun _ => true) true 117 v d p) :
    ∃ lv ns rt A n c ps, v = .agg #[.int .i64 lv, .int .i64 ns, .int .i64 rt, .slice A n c] ∧ Entries W A n ps ∧ n ≤ maxLen := by
  obtain ⟨c0, c1, c2, c3, y0, y1, y2, y3, m, rfl, _, _, h0, h1, h2, h3⟩ := open_agg4 Tryz.underlying117 (by kernel_rfl) cellsNode hv h
  obtain ⟨lv, rfl⟩ := int_of_trodE h0
  obtain ⟨ns, rfl⟩ := int_of_trodE h1
  obtain ⟨rt, rfl⟩ := int_of_trodE h2
  obtain ⟨A, n, c, ps, rfl, hp, hn⟩ := entries_of_trod h3
  exact ⟨lv, ns, rt, A, n, c, ps, rfl, hp, hn⟩

set_option maxRecDepth 100000 in
theorem entry_of_trod {H : Type} {enc : TypeId × Value → H} {W : World} {base : Nat} {v : Value} {d : DataW H} {p : List MemPlace} (hv : Value.okWide Tryz.prog W .any base 171 v)
    (h : DataW.Trod enc Tryz.prog W 0 (fun _ => true) true 171 v d p) :
    ∃ A1 n1 c1 A2 n2 c2 ref nsn x1 x2, v = .agg #[.slice A1 n1 c1, .slice A2 n2 c2, .int .i64 ref, .int .i64 nsn] ∧ Ints W 0 A1 n1 x1 ∧ Ints W 0 A2 n2 x2 ∧ n1 ≤ maxLen ∧ n2 ≤ maxLen := by
  obtain ⟨cs, rfl, hsz⟩ := okWide_struct Tryz.underlying171 hv
  obtain ⟨fuel, hf⟩ := h
  obtain ⟨q, hq, ho⟩ := entry_of_cells (cs := cs.toList) (by have := hsz.trans cellsEntry; simpa using this) (by simpa [Value.cells] using hf)
  obtain rfl : cs = #[.slice q.A1 q.n1 q.c1, .slice q.A2 q.n2 q.c2, .int .i64 q.ref, .int .i64 q.nsn] := by cases cs; simp_all
  exact ⟨q.A1, q.n1, q.c1, q.A2, q.n2, q.c2, q.ref, q.nsn, q.x1, q.x2, rfl, ho.1, ho.2.1, ho.2.2.1, ho.2.2.2⟩

end Go.Proofs.YtpgoildfjkokiaaGreat

/- The bridge between a row's reading of its arguments and the words of my walks, for lists of nodes. No condition. -/
namespace Go.Proofs.YtpgoildfjkokiaaGreat
open Go.ChangeShapes Go.WideShapes Go.ChangeAt Go.RowKit Go.Joins Go.Deep

/-- One node out of its four cells. -/
theorem node_of_cells {H : Type} {enc : TypeId × Value → H} {W : World} {fuel : Nat} {cs : List Value} {y : DataW H × List MemPlace} (hl : cs.length = 4)
    (h : DataW.trod enc Tryz.prog W 0 (fun _ => true) true fuel 117 cs = some y) : ∃ p : NV, cs = [.int .i64 p.lv, .int .i64 p.ns, .int .i64 p.rt, .slice p.A1 p.n1 p.c1] ∧ NodeOk W p := by
  have cellsEs : Tryz.prog.cellsOf 115 = 1 := by kernel_rfl
  match cs, hl with
  | [v0, v1, v2, v3], _ =>
    obtain ⟨y0, y1, y2, y3, n, _, _, h0, h1, h2, h3⟩ := trod_struct4 Tryz.underlying117 h
    simp only [cellsI64, cellsEs, List.drop, List.take] at h0 h1 h2 h3
    obtain ⟨lv, rfl⟩ := int_of_trodE h0
    obtain ⟨ns, rfl⟩ := int_of_trodE h1
    obtain ⟨rt, rfl⟩ := int_of_trodE h2
    obtain ⟨A1, n1, c1, es, rfl, he, hn1⟩ := entries_of_trod h3
    exact ⟨⟨lv, ns, rt, A1, n1, c1, es⟩, rfl, he, hn1⟩

set_option maxRecDepth 100000 in
theorem nodes_of_trod {H : Type} {enc : TypeId × Value → H} {W : World} {fuel : Nat} {v : Value} {y : DataW H × List MemPlace}
    (h : DataW.trod enc Tryz.prog W 0 (fun _ => true) true fuel 35 [v] = some y) : ∃ A n c ps, v = .slice A n c ∧ NodesL W A n ps ∧ n ≤ maxLen := by
  rcases open_slice Tryz.underlying35 h with ⟨hcs, _⟩ | ⟨a, len, cap, m, fu, D, Pl, hcs, _, hlc, hcm, hm, _, hx⟩
  · exact ⟨none, 0, 0, [], by simpa using hcs, ⟨rfl, fun h => absurd h (Nat.lt_irrefl 0), fun p hp => by simp at hp⟩, Nat.zero_le _⟩
  · have hml : len ≤ m := by rw [hm]; simp; exact hlc
    rw [cellsNode] at hx
    have each : ∀ i, i < len → ∃ p : NV, W.cell? (a.add (i * 4)) = some (.int .i64 p.lv) ∧ W.cell? (a.add (i * 4 + 1)) = some (.int .i64 p.ns) ∧ W.cell? (a.add (i * 4 + 2)) = some (.int .i64 p.rt) ∧ W.cell? (a.add (i * 4 + 3)) = some (.slice p.A1 p.n1 p.c1) ∧ NodeOk W p := by
      intro i hi
      obtain ⟨cs', h1, h2⟩ := hx i (by omega)
      obtain ⟨_, hlen, hcell⟩ := World.cells?_some h1
      obtain ⟨p, rfl, hp⟩ := node_of_cells hlen h2
      have e0 := hcell 0 (by omega)
      have e1 := hcell 1 (by omega)
      have e2 := hcell 2 (by omega)
      have e3 := hcell 3 (by omega)
      rw [add_add] at e0 e1 e2 e3
      exact ⟨p, by simpa using e0, by simpa using e1, by simpa using e2, by simpa using e3, hp⟩
    have : Inhabited NV := ⟨⟨0, 0, 0, none, 0, 0, []⟩⟩
    obtain ⟨f, hf⟩ := choose_lt each
    refine ⟨some a, len, cap, (List.range len).map f, by simpa using hcs, ⟨by simp, fun hp => ?_, fun p hp => ?_⟩, Nat.le_trans hlc hcm⟩
    · obtain ⟨b, off, spot⟩ := a
      have hspot : spot = none := by simpa [Addr.add] using World.cell?_spot (hf 0 hp).1
      subst hspot
      refine ⟨b, off, rfl, ?_, fun k p hk => ?_⟩
      · have h0 := (hf 0 hp).1
        rw [Go.WideShapes.add_plain] at h0
        exact block_lt_of_cell h0
      · have hk2 : k < len := by
          have := (List.getElem?_eq_some_iff.1 hk).1
          simpa using this
        have hfk : f k = p := by
          rw [List.getElem?_map, List.getElem?_range hk2] at hk
          simpa using hk
        obtain ⟨a0, a1, a2, a3, _⟩ := hf k hk2
        rw [Go.WideShapes.add_plain] at a0 a1 a2 a3
        rw [hfk] at a0 a1 a2 a3
        exact ⟨a0, a1, a2, a3⟩
    · obtain ⟨k, hk, rfl⟩ := List.mem_map.1 hp
      exact (hf k (List.mem_range.1 hk)).2.2.2.2

end Go.Proofs.YtpgoildfjkokiaaGreat

/- The bridge between a row's reading of its arguments and the words of my walks, for arenas. No condition. -/
namespace Go.Proofs.YtpgoildfjkokiaaGreat
open Go.ChangeShapes Go.WideShapes Go.ChangeAt Go.RowKit Go.Joins Go.Deep

theorem cellsRetired : Tryz.prog.cellsOf 120 = 2 := by kernel_rfl
theorem cellsArena : Tryz.prog.cellsOf 38 = 4 := by kernel_rfl

/-- One retired place out of its two cells. -/
theorem retired_of_cells {H : Type} {enc : TypeId × Value → H} {W : World} {fuel : Nat} {cs : List Value} {y : DataW H × List MemPlace} (hl : cs.length = 2)
    (h : DataW.trod enc Tryz.prog W 0 (fun _ => true) true fuel 120 cs = some y) : ∃ p : RV, cs = [.int .i64 p.id, .slice p.A1 p.n1 p.c1] ∧ RetOk W p := by
  match cs, hl with
  | [v0, v1], _ =>
    obtain ⟨y0, y1, n, _, _, h0, h1⟩ := trod_struct2 Tryz.underlying120 h
    simp only [cellsI64, cellsIntsE, List.drop, List.take] at h0 h1
    obtain ⟨id, rfl⟩ := int_of_trodE h0
    obtain ⟨A1, n1, c1, ws, rfl, he, hn1⟩ := ints_of_trod h1
    exact ⟨⟨id, A1, n1, c1, ws⟩, rfl, he, hn1⟩

set_option maxRecDepth 100000 in
theorem rets_of_trod {H : Type} {enc : TypeId × Value → H} {W : World} {fuel : Nat} {v : Value} {y : DataW H × List MemPlace}
    (h : DataW.trod enc Tryz.prog W 0 (fun _ => true) true fuel 36 [v] = some y) : ∃ A n c ps, v = .slice A n c ∧ Rets W A n ps ∧ n ≤ maxLen := by
  rcases open_slice Tryz.underlying36 h with ⟨hcs, _⟩ | ⟨a, len, cap, m, fu, D, Pl, hcs, _, hlc, hcm, hm, _, hx⟩
  · exact ⟨none, 0, 0, [], by simpa using hcs, ⟨rfl, fun h => absurd h (Nat.lt_irrefl 0), fun p hp => by simp at hp⟩, Nat.zero_le _⟩
  · have hml : len ≤ m := by rw [hm]; simp; exact hlc
    rw [cellsRetired] at hx
    have each : ∀ i, i < len → ∃ p : RV, W.cell? (a.add (i * 2)) = some (.int .i64 p.id) ∧ W.cell? (a.add (i * 2 + 1)) = some (.slice p.A1 p.n1 p.c1) ∧ RetOk W p := by
      intro i hi
      obtain ⟨cs', h1, h2⟩ := hx i (by omega)
      obtain ⟨_, hlen, hcell⟩ := World.cells?_some h1
      obtain ⟨p, rfl, hp⟩ := retired_of_cells hlen h2
      have e0 := hcell 0 (by omega)
      have e1 := hcell 1 (by omega)
      rw [add_add] at e0 e1
      exact ⟨p, by simpa using e0, by simpa using e1, hp⟩
    have : Inhabited RV := ⟨⟨0, none, 0, 0, []⟩⟩
    obtain ⟨f, hf⟩ := choose_lt each
    refine ⟨some a, len, cap, (List.range len).map f, by simpa using hcs, ⟨by simp, fun hp => ?_, fun p hp => ?_⟩, Nat.le_trans hlc hcm⟩
    · obtain ⟨b, off, spot⟩ := a
      have hspot : spot = none := by simpa [Addr.add] using World.cell?_spot (hf 0 hp).1
      subst hspot
      refine ⟨b, off, rfl, ?_, fun k p hk => ?_⟩
      · have h0 := (hf 0 hp).1
        rw [Go.WideShapes.add_plain] at h0
        exact block_lt_of_cell h0
      · have hk2 : k < len := by
          have := (List.getElem?_eq_some_iff.1 hk).1
          simpa using this
        have hfk : f k = p := by
          rw [List.getElem?_map, List.getElem?_range hk2] at hk
          simpa using hk
        obtain ⟨a0, a1, _⟩ := hf k hk2
        rw [Go.WideShapes.add_plain] at a0 a1
        rw [hfk] at a0 a1
        exact ⟨a0, a1⟩
    · obtain ⟨k, hk, rfl⟩ := List.mem_map.1 hp
      exact (hf k (List.mem_range.1 hk)).2.2

set_option maxRecDepth 100000 in
theorem arena_of_trod {H : Type} {enc : TypeId × Value → H} {W : World} {base : Nat} {v : Value} {d : DataW H} {p : List MemPlace} (hv : Value.okWide Tryz.prog W .any base 38 v)
    (h : DataW.Trod enc Tryz.prog W 0 (fun _ => true) true 38 v d p) :
    ∃ dd A1 n1 c1 A2 n2 c2 A3 n3 c3 ns fs rs, v = .agg #[.int .i64 dd, .slice A1 n1 c1, .slice A2 n2 c2, .slice A3 n3 c3] ∧ ArenaL W A1 A2 A3 n1 n2 n3 ns fs rs := by
  obtain ⟨c0, c1, c2, c3, y0, y1, y2, y3, m, rfl, _, _, h0, h1, h2, h3⟩ := open_agg4 Tryz.underlying38 (by kernel_rfl) cellsArena hv h
  obtain ⟨dd, rfl⟩ := int_of_trodE h0
  obtain ⟨A1, n1, c1, ns, rfl, q1, m1⟩ := nodes_of_trod h1
  obtain ⟨A2, n2, c2, fs, rfl, q2, m2⟩ := ints_of_trod h2
  obtain ⟨A3, n3, c3, rs, rfl, q3, m3⟩ := rets_of_trod h3
  exact ⟨dd, A1, n1, c1, A2, n2, c2, A3, n3, c3, ns, fs, rs, rfl, q1, q2, q3, m1, m2, m3⟩

end Go.Proofs.YtpgoildfjkokiaaGreat
