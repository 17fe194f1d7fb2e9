/- The walks of impl.bunch's choose and of impl.ChooseEntry. No condition but lengths. -/
import Derived.Test.YtbnlgmcjklfcoaaCheapest2
import Derived.Test.YtbnlgmcjklfcoaaBoxGrowth
import Derived.Test.YtbnlgmcjklfcoaaImplEntries
import Derived.Test.YtbnlgmcjklfcoaaSpecChooseEntry
import Derived.Test.YtbnlgmcjklfcoaaImplBoxOf
namespace Go.Proofs.Ytbnlgmcjklfcoaa
open Go.RowKit

theorem growth_is (G p0 p1 p2 q0 q1 q2 r0 r1 r2 s0 s1 s2 d : Int) (n : Nat) (x1 x2 x3 x4 : List Int) (w : World) (hp1 : Pad x1 p0 p1 p2) (hp2 : Pad x2 q0 q1 q2) (hp3 : Pad x3 r0 r1 r2) (hp4 : Pad x4 s0 s1 s2) (hR : Right x1 x2 n) (hR' : Right x3 x4 n) (hd : d = n) (hG : G = areaTo (mins x1 x3) (maxs x2 x4) n - areaTo x1 x2 n) :
    Calls Try.prog 134 #[.agg #[.int .i64 p0, .int .i64 p1, .int .i64 p2, .int .i64 q0, .int .i64 q1, .int .i64 q2], .agg #[.int .i64 r0, .int .i64 r1, .int .i64 r2, .int .i64 s0, .int .i64 s1, .int .i64 s2], .int .i64 d] w fun e w' => e = .returned (.int .i64 G) ∧ Below w.heap.size w w' := by
  subst hG; exact growth_any _ _ _ _ _ _ _ _ _ _ _ _ _ _ x1 x2 x3 x4 w hp1 hp2 hp3 hp4 hR hR' hd

theorem bidCells_len : ∀ ks : List (Int × Int), (ks.flatMap bidCells).length = ks.length * 2
  | [] => rfl
  | s :: ks => by simp only [List.flatMap_cons, List.length_append, bidCells_len ks, List.length_cons]; simp [bidCells]; omega
theorem bidCells_at : ∀ {ks : List (Int × Int)} {k j : Nat} {s : Int × Int} {v : Value}, ks[k]? = some s → (bidCells s)[j]? = some v → (ks.flatMap bidCells)[k * 2 + j]? = some v
  | [], k, j, s, v, hs, _ => by simp at hs
  | t :: ks, 0, j, s, v, hs, hv => by
    simp at hs; subst hs
    have hj : j < 2 := by have := (List.getElem?_eq_some_iff.1 hv).1; simpa [bidCells] using this
    rw [List.flatMap_cons, Nat.zero_mul, Nat.zero_add, List.getElem?_append_left (by simpa [bidCells] using hj)]; exact hv
  | t :: ks, k + 1, j, s, v, hs, hv => by
    rw [List.flatMap_cons, List.getElem?_append_right (by simp [bidCells]; omega)]
    have he : (k + 1) * 2 + j - (bidCells t).length = k * 2 + j := by simp [bidCells]; omega
    rw [he]
    exact bidCells_at (by simpa using hs) hv
/-- A row that the call owns reads as bids. -/
theorem bids_of_owns {w : World} {base n : Nat} {v : Value} {ks : List (Int × Int)} (h : w.ownsRow base 194 2 v n (ks.flatMap bidCells)) : ∃ A c, v = .slice A n c ∧ Bids w A n ks := by
  obtain ⟨hl, h⟩ := h
  rw [bidCells_len] at hl
  have hl' : ks.length = n := by omega
  rcases h with ⟨rfl, rfl⟩ | ⟨g, cap, cur, rfl, h2, h3, h4, h5, h6, h7⟩
  · exact ⟨none, 0, rfl, hl', fun h => absurd h (Nat.lt_irrefl 0)⟩
  · have hg : g < w.heap.size := by
      rcases Nat.lt_or_ge g w.heap.size with h' | h'
      · exact h'
      · exact absurd (h3.symm.trans (Array.getElem?_eq_none h')) (by simp)
    have one : ∀ (k j : Nat) (s : Int × Int) (v : Value), ks[k]? = some s → (bidCells s)[j]? = some v → w.cell? ⟨g, k * 2 + j, none⟩ = some v := by
      intro k j s v hk hv
      have hj : j < 2 := by have := (List.getElem?_eq_some_iff.1 hv).1; simpa [bidCells] using this
      have hk2 : k < n := by rw [← hl']; exact (List.getElem?_eq_some_iff.1 hk).1
      rw [cell_of_row w g (k * 2 + j) cur 194 (0, 0) h3]
      have h8 : (cur.toList.take (n * 2))[k * 2 + j]? = some v := by rw [h7]; exact bidCells_at hk hv
      rw [List.getElem?_take, if_pos (by omega)] at h8
      simpa using h8
    refine ⟨_, _, rfl, hl', fun _ => ⟨g, 0, rfl, hg, fun k s hk => ⟨?_, ?_⟩⟩⟩
    · rw [Nat.zero_add]; exact one k 0 s _ hk rfl
    · rw [Nat.zero_add]; exact one k 1 s _ hk rfl
theorem info_bid : ∃ i, Try.prog.info? 194 = some i ∧ i.zero = some (.agg #[.int .i64 0, .int .i64 0]) ∧ i.size = 2 ∧ i.bytes = 16 := by
  have h : (Try.prog.info? 194).map (fun i => (i.zero, i.size, i.bytes)) = some (some (.agg #[.int .i64 0, .int .i64 0]), 2, 16) := by kernel_rfl
  obtain ⟨i, hi, h⟩ := Option.map_eq_some_iff.1 h
  injection h with h1 h2
  injection h2 with h2 h3
  exact ⟨i, hi, h1, h2, h3⟩

/-- Where choose's loop stands. -/
structure Bidding (w wr : World) (bd yb : Array Value) (k : Nat) (ks : List (Int × Int)) (v : Value) : Prop where
  b : Below w.heap.size w wr
  m : Lies wr w.heap.size 113 bd
  y : Lies wr (w.heap.size + 1) 126 yb
  S : wr.ownsRow (w.heap.size + 1 + 1) 194 2 v k (ks.flatMap bidCells)

section
variable {w wr : World} {bd yb : Array Value} {k : Nat} {ks : List (Int × Int)} {v : Value}
theorem Bidding.alloc (h : Bidding w wr bd yb k ks v) (o : Obj) : Bidding w (wr.alloc o) bd yb k ks v := ⟨h.b.alloc h.b.size o, h.m.alloc o, h.y.alloc o, h.S.alloc o⟩
theorem Bidding.drew (h : Bidding w wr bd yb k ks v) : Bidding w wr.drew bd yb k ks v := ⟨h.b.drew, h.m, h.y, h.S.drew⟩
theorem Bidding.call {W : World} (h : Bidding w wr bd yb k ks v) (hb : Below wr.heap.size wr W) : Bidding w W bd yb k ks v := ⟨h.b.trans (hb.mono h.b.size), h.m.kept hb h.m.inside, h.y.kept hb h.y.inside, ownsRow_below h.S hb⟩
theorem Bidding.put {w1 : World} {g cap : Nat} {x : Int × Int} (h : Bidding w wr bd yb k ks v) (ho : w1.ownsRow (w.heap.size + 1 + 1) 194 2 (.slice (some ⟨g, 0, none⟩) (k + 1) cap) (k + 1) (ks.flatMap bidCells ++ bidCells x)) (hg : wr.grownBy w1 v.ownBlock) :
    Bidding w w1 bd yb (k + 1) (ks ++ [x]) (.slice (some ⟨g, 0, none⟩) (k + 1) cap) := by
  have hb := ownsRow_block2 h.S
  refine ⟨below_grown2 h.b hg (fun r e => by have := (hb r e).1; omega) h.b.size, (hg.block _ h.m.inside (fun e => by have := (hb _ e.symm).1; omega)).trans h.m, (hg.block _ h.y.inside (fun e => by have := (hb _ e.symm).1; omega)).trans h.y, ?_⟩
  rw [List.flatMap_append, show ([x].flatMap bidCells) = bidCells x by simp]
  exact ho
end
theorem Bidding.start (w : World) (bd yb : Array Value) : Bidding w ((w.alloc (.cells bd 113)).alloc (.cells yb 126)) bd yb 0 [] (.slice none 0 0) := by
  have h := Lies.new (w.alloc (.cells bd 113)) 126 yb
  simp only [World.size_alloc] at h
  exact ⟨(below_alloc _ _).alloc (below_alloc _ _).size _, (Lies.new w _ _).alloc _, h, ⟨rfl, Or.inl ⟨rfl, rfl⟩⟩⟩

set_option maxRecDepth 100000 in
set_option maxHeartbeats 6400000 in
theorem choose_any (r0 r1 r2 s0 s1 s2 d : Int) (n c dd : Nat) (A : Option Addr) (vs : List EVal) (ss : List SL) (y1 y2 : List Int) (w : World) (hp : Slots w A n ss) (ho : SlotsOf vs ss) (hn : n ≤ 8) (h0 : 0 < n) (hr : ∀ (j : Nat) (u : EVal), vs[j]? = some u → Right u.1 u.2.1 dd) (hy1 : Pad y1 r0 r1 r2) (hy2 : Pad y2 s0 s1 s2) (hY : Right y1 y2 dd) (hd : d = dd) :
    Calls Try.prog 84 #[.agg #[.int .i64 d, .slice A n c], .agg #[.int .i64 r0, .int .i64 r1, .int .i64 r2, .int .i64 s0, .int .i64 s1, .int .i64 s2]] w fun e w' => e = .returned (.int .i64 ((bestTo (bidsE y1 y2 dd vs) n : Nat) : Int)) ∧ Below w.heap.size w w' := by
  have HP := Lib.hid hp
  have HO := Lib.hid ho
  have HE := Lib.hid hr
  have HL : Hid (vs.length = n) := ho.1.symm.trans hp.1
  have Y1 := Lib.hid hy1
  have Y2 := Lib.hid hy2
  have HY := Lib.hid hY
  have HD := Lib.hid hd
  clear hp ho hr hy1 hy2 hY hd
  obtain ⟨i0, hi0, hz0, hz1, hz2⟩ := info_bid
  have IP := Lib.hid (And.intro hi0 (And.intro hz0 (And.intro hz1 hz2)))
  clear hi0 hz0 hz1 hz2
  go_enter Try.func84, Try.ntmps84
  go_wp2
  go_loopw [5, 11] (fun l i wr => ∃ (k : Nat) (v : Value) (ks : List (Int × Int)), k ≤ n ∧ i = .int .i64 k ∧ v = l ∧ Hid (Bidding w wr #[.int .i64 d, .slice A n c] #[.int .i64 r0, .int .i64 r1, .int .i64 r2, .int .i64 s0, .int .i64 s1, .int .i64 s2] k ks v) ∧ Hid (ks = (bidsE y1 y2 dd vs).take k)) (fun _ i _ => n - (intOf i).toNat)
  case atStart => exact ⟨0, .slice none 0 0, [], Nat.zero_le _, rfl, rfl, Bidding.start w _ _, rfl⟩
  case round =>
    obtain ⟨k, v, ks, hk, rfl, rfl, hU, hV⟩ := hrel
    by_cases hlt : k < n
    · obtain ⟨b, o, p0, p1, p2, q0, q1, q2, ref, nsn, rfl, hb, d0, d1, d2, d3, d4, d5, d6, d7, hx⟩ := HP.out.cellAt hlt
      have e0 : wr.cell? ⟨b, o + k * 8, none⟩ = some (.int .i64 p0) := (hU.out.b.cell (p := ⟨b, o + k * 8, none⟩) hb).trans d0
      have e1 : wr.cell? ⟨b, o + k * 8 + 1, none⟩ = some (.int .i64 p1) := (hU.out.b.cell (p := ⟨b, o + k * 8 + 1, none⟩) hb).trans d1
      have e2 : wr.cell? ⟨b, o + k * 8 + 2, none⟩ = some (.int .i64 p2) := (hU.out.b.cell (p := ⟨b, o + k * 8 + 2, none⟩) hb).trans d2
      have e3 : wr.cell? ⟨b, o + k * 8 + 3, none⟩ = some (.int .i64 q0) := (hU.out.b.cell (p := ⟨b, o + k * 8 + 3, none⟩) hb).trans d3
      have e4 : wr.cell? ⟨b, o + k * 8 + 4, none⟩ = some (.int .i64 q1) := (hU.out.b.cell (p := ⟨b, o + k * 8 + 4, none⟩) hb).trans d4
      have e5 : wr.cell? ⟨b, o + k * 8 + 5, none⟩ = some (.int .i64 q2) := (hU.out.b.cell (p := ⟨b, o + k * 8 + 5, none⟩) hb).trans d5
      have e6 : wr.cell? ⟨b, o + k * 8 + 6, none⟩ = some (.int .i64 ref) := (hU.out.b.cell (p := ⟨b, o + k * 8 + 6, none⟩) hb).trans d6
      have e7 : wr.cell? ⟨b, o + k * 8 + 7, none⟩ = some (.int .i64 nsn) := (hU.out.b.cell (p := ⟨b, o + k * 8 + 7, none⟩) hb).trans d7
      clear d0 d1 d2 d3 d4 d5 d6 d7
      obtain ⟨ev, hev, hso⟩ := HO.out.at hx.out
      obtain ⟨x1, x2, ref', nsn'⟩ := ev
      obtain ⟨hp1, hq1, hr1, hn1⟩ := hso
      simp only at hr1 hn1 hp1 hq1
      have hRk := HE.out k _ hev
      simp only at hRk
      obtain ⟨G, hG⟩ : ∃ G, G = areaTo (mins x1 y1) (maxs x2 y2) dd - areaTo x1 x2 dd := ⟨_, rfl⟩
      obtain ⟨U, hU1'⟩ : ∃ U, U = areaTo x1 x2 dd := ⟨_, rfl⟩
      have hV2 : Hid (ks ++ [(G, U)] = (bidsE y1 y2 dd vs).take (k + 1)) := by
        show _ = _
        rw [List.take_add_one, hV.out, hG, hU1']
        have : (bidsE y1 y2 dd vs)[k]? = some (bidE y1 y2 dd (x1, x2, ref', nsn')) := by simp [bidsE, hev]
        rw [this]; rfl
      have H1 := Lib.hid hp1
      have H2 := Lib.hid hq1
      have HRk := Lib.hid hRk
      replace hG := Lib.hid hG
      replace hU1' := Lib.hid hU1'
      clear hx hev hp1 hq1 hr1 hn1 hRk hV
      go_wp2
      clear e0 e1 e2 e3 e4 e5 e6 e7
      generalize hW : (wr.alloc (.cells #[.int .i64 p0, .int .i64 p1, .int .i64 p2, .int .i64 q0, .int .i64 q1, .int .i64 q2, .int .i64 ref, .int .i64 nsn] 150)) = W0 at *
      have hU0 : Hid (Bidding w W0 #[.int .i64 d, .slice (some ⟨b, o, none⟩) n c] #[.int .i64 r0, .int .i64 r1, .int .i64 r2, .int .i64 s0, .int .i64 s1, .int .i64 s2] k ks v) := by rw [← hW]; exact hU.out.alloc _
      have hE : Hid (Lies W0 wr.heap.size 150 #[.int .i64 p0, .int .i64 p1, .int .i64 p2, .int .i64 q0, .int .i64 q1, .int .i64 q2, .int .i64 ref, .int .i64 nsn]) := by rw [← hW]; exact Lies.new _ _ _
      have hUS := ownsRow_block2 hU.out.S
      have hsw : wr.heap.size < W0.heap.size := by rw [← hW]; simp
      clear hW hU
      have kd : W0.cell? ⟨w.heap.size, 0, none⟩ = some (.int .i64 d) := hU0.out.m.cell 0
      have ky0 : W0.cell? ⟨w.heap.size + 1, 0, none⟩ = some (.int .i64 r0) := hU0.out.y.cell 0
      have ky1 : W0.cell? ⟨w.heap.size + 1, 1, none⟩ = some (.int .i64 r1) := hU0.out.y.cell 1
      have ky2 : W0.cell? ⟨w.heap.size + 1, 2, none⟩ = some (.int .i64 r2) := hU0.out.y.cell 2
      have ky3 : W0.cell? ⟨w.heap.size + 1, 3, none⟩ = some (.int .i64 s0) := hU0.out.y.cell 3
      have ky4 : W0.cell? ⟨w.heap.size + 1, 4, none⟩ = some (.int .i64 s1) := hU0.out.y.cell 4
      have ky5 : W0.cell? ⟨w.heap.size + 1, 5, none⟩ = some (.int .i64 s2) := hU0.out.y.cell 5
      have ke0 : W0.cell? ⟨wr.heap.size, 0, none⟩ = some (.int .i64 p0) := hE.out.cell 0
      have ke1 : W0.cell? ⟨wr.heap.size, 1, none⟩ = some (.int .i64 p1) := hE.out.cell 1
      have ke2 : W0.cell? ⟨wr.heap.size, 2, none⟩ = some (.int .i64 p2) := hE.out.cell 2
      have ke3 : W0.cell? ⟨wr.heap.size, 3, none⟩ = some (.int .i64 q0) := hE.out.cell 3
      have ke4 : W0.cell? ⟨wr.heap.size, 4, none⟩ = some (.int .i64 q1) := hE.out.cell 4
      have ke5 : W0.cell? ⟨wr.heap.size, 5, none⟩ = some (.int .i64 q2) := hE.out.cell 5
      have k_0 : W0.cell? ⟨wr.heap.size, 0, none⟩ = some (.int .i64 p0) ∧ W0.cell? ⟨wr.heap.size, 1, none⟩ = some (.int .i64 p1) ∧ W0.cell? ⟨wr.heap.size, 2, none⟩ = some (.int .i64 p2) ∧ W0.cell? ⟨wr.heap.size, 3, none⟩ = some (.int .i64 q0) ∧ W0.cell? ⟨wr.heap.size, 4, none⟩ = some (.int .i64 q1) ∧ W0.cell? ⟨wr.heap.size, 5, none⟩ = some (.int .i64 q2) ∧ W0.cell? ⟨w.heap.size + 1, 0, none⟩ = some (.int .i64 r0) ∧ W0.cell? ⟨w.heap.size + 1, 1, none⟩ = some (.int .i64 r1) ∧ W0.cell? ⟨w.heap.size + 1, 2, none⟩ = some (.int .i64 r2) ∧ W0.cell? ⟨w.heap.size + 1, 3, none⟩ = some (.int .i64 s0) ∧ W0.cell? ⟨w.heap.size + 1, 4, none⟩ = some (.int .i64 s1) ∧ W0.cell? ⟨w.heap.size + 1, 5, none⟩ = some (.int .i64 s2) ∧ W0.cell? ⟨w.heap.size, 0, none⟩ = some (.int .i64 d) := ⟨hE.out.cell 0, hE.out.cell 1, hE.out.cell 2, hE.out.cell 3, hE.out.cell 4, hE.out.cell 5, hU0.out.y.cell 0, hU0.out.y.cell 1, hU0.out.y.cell 2, hU0.out.y.cell 3, hU0.out.y.cell 4, hU0.out.y.cell 5, hU0.out.m.cell 0⟩
      go_region_held3 (fun w' => w'.cell? ⟨wr.heap.size, 0, none⟩ = some (.int .i64 p0) ∧ w'.cell? ⟨wr.heap.size, 1, none⟩ = some (.int .i64 p1) ∧ w'.cell? ⟨wr.heap.size, 2, none⟩ = some (.int .i64 p2) ∧ w'.cell? ⟨wr.heap.size, 3, none⟩ = some (.int .i64 q0) ∧ w'.cell? ⟨wr.heap.size, 4, none⟩ = some (.int .i64 q1) ∧ w'.cell? ⟨wr.heap.size, 5, none⟩ = some (.int .i64 q2) ∧ w'.cell? ⟨w.heap.size + 1, 0, none⟩ = some (.int .i64 r0) ∧ w'.cell? ⟨w.heap.size + 1, 1, none⟩ = some (.int .i64 r1) ∧ w'.cell? ⟨w.heap.size + 1, 2, none⟩ = some (.int .i64 r2) ∧ w'.cell? ⟨w.heap.size + 1, 3, none⟩ = some (.int .i64 s0) ∧ w'.cell? ⟨w.heap.size + 1, 4, none⟩ = some (.int .i64 s1) ∧ w'.cell? ⟨w.heap.size + 1, 5, none⟩ = some (.int .i64 s2) ∧ w'.cell? ⟨w.heap.size, 0, none⟩ = some (.int .i64 d))
        (first | (simp [go_sem, k_0]; done) | with_reducible exact k_1 | with_reducible exact k_2 | (simp [go_sem, k_1]; done) | (simp [go_sem, k_2]; done) | with_reducible exact k_9 | exact ⟨(show Lies _ wr.heap.size 150 #[.int .i64 p0, .int .i64 p1, .int .i64 p2, .int .i64 q0, .int .i64 q1, .int .i64 q2, .int .i64 ref, .int .i64 nsn] from by with_reducible (repeat (first | exact hE2.out | refine Lies.drew ?_ | refine Lies.alloc ?_ _))).cell 0, (show Lies _ wr.heap.size 150 #[.int .i64 p0, .int .i64 p1, .int .i64 p2, .int .i64 q0, .int .i64 q1, .int .i64 q2, .int .i64 ref, .int .i64 nsn] from by with_reducible (repeat (first | exact hE2.out | refine Lies.drew ?_ | refine Lies.alloc ?_ _))).cell 1, (show Lies _ wr.heap.size 150 #[.int .i64 p0, .int .i64 p1, .int .i64 p2, .int .i64 q0, .int .i64 q1, .int .i64 q2, .int .i64 ref, .int .i64 nsn] from by with_reducible (repeat (first | exact hE2.out | refine Lies.drew ?_ | refine Lies.alloc ?_ _))).cell 2, (show Lies _ wr.heap.size 150 #[.int .i64 p0, .int .i64 p1, .int .i64 p2, .int .i64 q0, .int .i64 q1, .int .i64 q2, .int .i64 ref, .int .i64 nsn] from by with_reducible (repeat (first | exact hE2.out | refine Lies.drew ?_ | refine Lies.alloc ?_ _))).cell 3, (show Lies _ wr.heap.size 150 #[.int .i64 p0, .int .i64 p1, .int .i64 p2, .int .i64 q0, .int .i64 q1, .int .i64 q2, .int .i64 ref, .int .i64 nsn] from by with_reducible (repeat (first | exact hE2.out | refine Lies.drew ?_ | refine Lies.alloc ?_ _))).cell 4, (show Lies _ wr.heap.size 150 #[.int .i64 p0, .int .i64 p1, .int .i64 p2, .int .i64 q0, .int .i64 q1, .int .i64 q2, .int .i64 ref, .int .i64 nsn] from by with_reducible (repeat (first | exact hE2.out | refine Lies.drew ?_ | refine Lies.alloc ?_ _))).cell 5, (show Bidding w _ #[.int .i64 d, .slice (some ⟨b, o, none⟩) n c] #[.int .i64 r0, .int .i64 r1, .int .i64 r2, .int .i64 s0, .int .i64 s1, .int .i64 s2] k ks v from by with_reducible (repeat (first | exact hU2.out | refine Bidding.drew ?_ | refine Bidding.alloc ?_ _))).y.cell 0, (show Bidding w _ #[.int .i64 d, .slice (some ⟨b, o, none⟩) n c] #[.int .i64 r0, .int .i64 r1, .int .i64 r2, .int .i64 s0, .int .i64 s1, .int .i64 s2] k ks v from by with_reducible (repeat (first | exact hU2.out | refine Bidding.drew ?_ | refine Bidding.alloc ?_ _))).y.cell 1, (show Bidding w _ #[.int .i64 d, .slice (some ⟨b, o, none⟩) n c] #[.int .i64 r0, .int .i64 r1, .int .i64 r2, .int .i64 s0, .int .i64 s1, .int .i64 s2] k ks v from by with_reducible (repeat (first | exact hU2.out | refine Bidding.drew ?_ | refine Bidding.alloc ?_ _))).y.cell 2, (show Bidding w _ #[.int .i64 d, .slice (some ⟨b, o, none⟩) n c] #[.int .i64 r0, .int .i64 r1, .int .i64 r2, .int .i64 s0, .int .i64 s1, .int .i64 s2] k ks v from by with_reducible (repeat (first | exact hU2.out | refine Bidding.drew ?_ | refine Bidding.alloc ?_ _))).y.cell 3, (show Bidding w _ #[.int .i64 d, .slice (some ⟨b, o, none⟩) n c] #[.int .i64 r0, .int .i64 r1, .int .i64 r2, .int .i64 s0, .int .i64 s1, .int .i64 s2] k ks v from by with_reducible (repeat (first | exact hU2.out | refine Bidding.drew ?_ | refine Bidding.alloc ?_ _))).y.cell 4, (show Bidding w _ #[.int .i64 d, .slice (some ⟨b, o, none⟩) n c] #[.int .i64 r0, .int .i64 r1, .int .i64 r2, .int .i64 s0, .int .i64 s1, .int .i64 s2] k ks v from by with_reducible (repeat (first | exact hU2.out | refine Bidding.drew ?_ | refine Bidding.alloc ?_ _))).y.cell 5, (show Bidding w _ #[.int .i64 d, .slice (some ⟨b, o, none⟩) n c] #[.int .i64 r0, .int .i64 r1, .int .i64 r2, .int .i64 s0, .int .i64 s1, .int .i64 s2] k ks v from by with_reducible (repeat (first | exact hU2.out | refine Bidding.drew ?_ | refine Bidding.alloc ?_ _))).m.cell 0⟩)
        (first
          | (apply step_append_lies (s := .tmp 15) (x := .tmp 28) (t := 190) (base := w.heap.size + 1 + 1) (e := 194) (i := i0) (z := .agg #[.int .i64 0, .int .i64 0]) (size := 2) (bytes := 16) (v := v) (n := k) (xs := ks.flatMap bidCells) (ad := ⟨W2.heap.size, 0, none⟩) (m := 1) (c := 1) (news := [.int .i64 G, .int .i64 U]) (H := W2.heap.size + 1)
             case hgd => rfl
             case ho => rfl
             case ht => exact Try.underlying190
             case hi => exact IP.out.1
             case hz => exact IP.out.2.1
             case hsize => exact IP.out.2.2.1
             case hby => exact IP.out.2.2.2
             case hzs => rfl
             case hsz => omega
             case hs => rfl
             case hown => with_reducible (repeat (first | exact hU2.out.S | refine World.ownsRow.drew ?_ | refine World.ownsRow.alloc ?_ _))
             case hx => rfl
             case hl => rfl
             case hnews => exact World.news_of_block (cs := #[.int .i64 G, .int .i64 U]) (t := 194) (fr := (0, 0)) (by (with_reducible (repeat (refine Lies.drew ?_))); exact Lies.laid rfl)
             case h1 => simp [Value.oneCell']
             case hm => omega
             case h63 => unfold maxLen; omega
             case hbytes => omega
             case hbase => have h9 := hU2.out.y.inside; simp only [size_of_drew, World.size_alloc]; omega
             case hH => simp only [size_of_drew, World.size_alloc]
             intro gg cap w1 hown1 hgrow hat hlt1
             have hS2 : Hid (Bidding w w1 #[.int .i64 d, .slice (some ⟨b, o, none⟩) n c] #[.int .i64 r0, .int .i64 r1, .int .i64 r2, .int .i64 s0, .int .i64 s1, .int .i64 s2] (k + 1) (ks ++ [(G, U)]) (.slice (some ⟨gg, 0, none⟩) (k + 1) cap)) := by
               refine Bidding.put (x := (G, U)) ?_ hown1 hgrow
               with_reducible (repeat (first | exact hU2.out | refine Bidding.drew ?_ | refine Bidding.alloc ?_ _))
             have hE8 : Lies (W2.alloc (.cells #[.int .i64 G, .int .i64 U] 194)) wr.heap.size 150 #[.int .i64 p0, .int .i64 p1, .int .i64 p2, .int .i64 q0, .int .i64 q1, .int .i64 q2, .int .i64 ref, .int .i64 nsn] := hE2.out.alloc _
             have hE9 : Lies w1 wr.heap.size 150 #[.int .i64 p0, .int .i64 p1, .int .i64 p2, .int .i64 q0, .int .i64 q1, .int .i64 q2, .int .i64 ref, .int .i64 nsn] := (hgrow.block _ (by have := hE2.out.inside; simp only [size_of_drew, World.size_alloc]; omega) (fun e => by have := (hUS _ e.symm).2; omega)).trans hE8
             have k_9 : w1.cell? ⟨wr.heap.size, 0, none⟩ = some (.int .i64 p0) ∧ w1.cell? ⟨wr.heap.size, 1, none⟩ = some (.int .i64 p1) ∧ w1.cell? ⟨wr.heap.size, 2, none⟩ = some (.int .i64 p2) ∧ w1.cell? ⟨wr.heap.size, 3, none⟩ = some (.int .i64 q0) ∧ w1.cell? ⟨wr.heap.size, 4, none⟩ = some (.int .i64 q1) ∧ w1.cell? ⟨wr.heap.size, 5, none⟩ = some (.int .i64 q2) ∧ w1.cell? ⟨w.heap.size + 1, 0, none⟩ = some (.int .i64 r0) ∧ w1.cell? ⟨w.heap.size + 1, 1, none⟩ = some (.int .i64 r1) ∧ w1.cell? ⟨w.heap.size + 1, 2, none⟩ = some (.int .i64 r2) ∧ w1.cell? ⟨w.heap.size + 1, 3, none⟩ = some (.int .i64 s0) ∧ w1.cell? ⟨w.heap.size + 1, 4, none⟩ = some (.int .i64 s1) ∧ w1.cell? ⟨w.heap.size + 1, 5, none⟩ = some (.int .i64 s2) ∧ w1.cell? ⟨w.heap.size, 0, none⟩ = some (.int .i64 d) := ⟨hE9.cell 0, hE9.cell 1, hE9.cell 2, hE9.cell 3, hE9.cell 4, hE9.cell 5, hS2.out.y.cell 0, hS2.out.y.cell 1, hS2.out.y.cell 2, hS2.out.y.cell 3, hS2.out.y.cell 4, hS2.out.y.cell 5, hS2.out.m.cell 0⟩)
          | (go_at_call 134; refine (growth_is G _ _ _ _ _ _ _ _ _ _ _ _ _ dd x1 x2 y1 y2 _ H1.out H2.out Y1.out Y2.out HRk.out HY.out HD.out hG.out).mono ?_
             rintro e W1 ⟨rfl, b1d⟩
             have b1 := below_drawn b1d
             have hU1 := Lib.hid (hU0.out.call b1)
             have hE1 := Lib.hid (hE.out.kept b1 hE.out.inside)
             have k_1 : W1.cell? ⟨wr.heap.size, 0, none⟩ = some (.int .i64 p0) ∧ W1.cell? ⟨wr.heap.size, 1, none⟩ = some (.int .i64 p1) ∧ W1.cell? ⟨wr.heap.size, 2, none⟩ = some (.int .i64 p2) ∧ W1.cell? ⟨wr.heap.size, 3, none⟩ = some (.int .i64 q0) ∧ W1.cell? ⟨wr.heap.size, 4, none⟩ = some (.int .i64 q1) ∧ W1.cell? ⟨wr.heap.size, 5, none⟩ = some (.int .i64 q2) ∧ W1.cell? ⟨w.heap.size + 1, 0, none⟩ = some (.int .i64 r0) ∧ W1.cell? ⟨w.heap.size + 1, 1, none⟩ = some (.int .i64 r1) ∧ W1.cell? ⟨w.heap.size + 1, 2, none⟩ = some (.int .i64 r2) ∧ W1.cell? ⟨w.heap.size + 1, 3, none⟩ = some (.int .i64 s0) ∧ W1.cell? ⟨w.heap.size + 1, 4, none⟩ = some (.int .i64 s1) ∧ W1.cell? ⟨w.heap.size + 1, 5, none⟩ = some (.int .i64 s2) ∧ W1.cell? ⟨w.heap.size, 0, none⟩ = some (.int .i64 d) := ⟨hE1.out.cell 0, hE1.out.cell 1, hE1.out.cell 2, hE1.out.cell 3, hE1.out.cell 4, hE1.out.cell 5, hU1.out.y.cell 0, hU1.out.y.cell 1, hU1.out.y.cell 2, hU1.out.y.cell 3, hU1.out.y.cell 4, hU1.out.y.cell 5, hU1.out.m.cell 0⟩
             clear b1)
          | (go_at_call 135; refine (area_is U _ _ _ _ _ _ _ dd x1 x2 _ H1.out H2.out HRk.out HD.out hU1'.out).mono ?_
             rintro e W2 ⟨rfl, b2⟩
             have hU2 := Lib.hid (hU1.out.call b2)
             have hE2 := Lib.hid (hE1.out.kept b2 hE1.out.inside)
             have k_2 : W2.cell? ⟨wr.heap.size, 0, none⟩ = some (.int .i64 p0) ∧ W2.cell? ⟨wr.heap.size, 1, none⟩ = some (.int .i64 p1) ∧ W2.cell? ⟨wr.heap.size, 2, none⟩ = some (.int .i64 p2) ∧ W2.cell? ⟨wr.heap.size, 3, none⟩ = some (.int .i64 q0) ∧ W2.cell? ⟨wr.heap.size, 4, none⟩ = some (.int .i64 q1) ∧ W2.cell? ⟨wr.heap.size, 5, none⟩ = some (.int .i64 q2) ∧ W2.cell? ⟨w.heap.size + 1, 0, none⟩ = some (.int .i64 r0) ∧ W2.cell? ⟨w.heap.size + 1, 1, none⟩ = some (.int .i64 r1) ∧ W2.cell? ⟨w.heap.size + 1, 2, none⟩ = some (.int .i64 r2) ∧ W2.cell? ⟨w.heap.size + 1, 3, none⟩ = some (.int .i64 s0) ∧ W2.cell? ⟨w.heap.size + 1, 4, none⟩ = some (.int .i64 s1) ∧ W2.cell? ⟨w.heap.size + 1, 5, none⟩ = some (.int .i64 s2) ∧ W2.cell? ⟨w.heap.size, 0, none⟩ = some (.int .i64 d) := ⟨hE2.out.cell 0, hE2.out.cell 1, hE2.out.cell 2, hE2.out.cell 3, hE2.out.cell 4, hE2.out.cell 5, hU2.out.y.cell 0, hU2.out.y.cell 1, hU2.out.y.cell 2, hU2.out.y.cell 3, hU2.out.y.cell 4, hU2.out.y.cell 5, hU2.out.m.cell 0⟩
             clear b2))
      clear k_0 k_1 k_2 k_9
      go_wp2
      go_roundw
      case rel => exact ⟨k + 1, _, _, by omega, by go_num, rfl, hS2, hV2⟩
      case measure => simp [intOf]; omega
    · have hkn : k = n := by omega
      subst hkn
      have HK : Hid (ks = bidsE y1 y2 dd vs) := by
        have := hV.out
        rwa [List.take_of_length_le (by simp [bidsE, HL.out])] at this
      have hks := HK.out
      subst hks
      obtain ⟨A', c', hv, hBd⟩ := bids_of_owns hU.out.S
      subst hv
      go_wp2_with fail
      refine (cheapest_any _ _ _ (bidsE y1 y2 dd vs) _ hBd h0 (by unfold maxLen; omega)).mono ?_
      rintro e W1 ⟨rfl, b1⟩
      go_wp2
      go_ret
      exact ⟨rfl, hU.out.b.trans (b1.mono hU.out.b.size)⟩

end Go.Proofs.Ytbnlgmcjklfcoaa
