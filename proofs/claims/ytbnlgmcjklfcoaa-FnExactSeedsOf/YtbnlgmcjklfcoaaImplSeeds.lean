/- The walks of impl.openToSplit, of impl.bunch's waste and of its closure, and of seeds. No condition but lengths. -/
import Derived.Test.YtbnlgmcjklfcoaaSpecSeeds
import Derived.Test.YtbnlgmcjklfcoaaImplEntries
import Derived.Test.YtbnlgmcjklfcoaaImplBoxOf
import Derived.Test.YtbnlgmcjklfcoaaBoxGrowth
import Derived.Deep.RegionHeld3
namespace Go.Proofs.Ytbnlgmcjklfcoaa
open Go.RowKit

/-- What openToSplit answers: a code, or a bunch with slots of its own in a new block. -/
def OpenSplit (d : Int) (n : Nat) (vs : List EVal) (w : World) (e : Ending) (w' : World) : Prop :=
  Below w.heap.size w w' ∧ ((enoughF vs d ≠ 0 ∧ e = .returned (.tuple #[.agg #[.int .i64 0, .slice none 0 0], .int .i64 (enoughF vs d)])) ∨
    (enoughF vs d = 0 ∧ ∃ (A' : Option Addr) (c' : Nat) (ss : List SL), e = .returned (.tuple #[.agg #[.int .i64 d, .slice A' n c'], .int .i64 0]) ∧ Slots w' A' n ss ∧ SlotsOf vs ss ∧ Fresh w.heap.size A' n))

set_option maxRecDepth 100000 in
set_option maxHeartbeats 3200000 in
theorem openToSplit_any (d : Int) (n c : Nat) (A : Option Addr) (ps : List EV) (w : World) (hp : Entries w A n ps) (hn : n ≤ maxLen) :
    Calls Try.prog 89 #[.slice A n c, .int .i64 d] w (OpenSplit d n (ps.map EV.val) w) := by
  have HP := Lib.hid hp
  have HL : Hid ((ps.map EV.val).length = n) := by show List.length _ = n; rw [List.length_map]; exact hp.1
  clear hp
  have B := Lib.hid (below_alloc w (.cells #[.int .i64 0, .slice none 0 0] 113))
  have L_r := Lib.hid (Lies.new w 113 #[.int .i64 0, .slice none 0 0])
  go_enter Try.func89, Try.ntmps89
  go_wp2_with fail
  refine (openEntries_any _ _ _ _ ps _ (HP.out.kept B.out) hn).mono ?_
  rintro e W1 ⟨b1, h⟩
  have hW0 : w.heap.size < (w.alloc (.cells #[.int .i64 0, .slice none 0 0] 113)).heap.size := by simp
  replace L_r := Lib.hid (L_r.out.kept b1 L_r.out.inside)
  rcases h with ⟨hz, rfl⟩ | ⟨hz, A', c', ss, rfl, hS, hO, hF⟩
  · have HF := Lib.hid (enoughF_ents hz)
    have HNZ : Hid (enoughF (ps.map EV.val) d ≠ 0) := by show enoughF _ _ ≠ 0; rw [HF.out]; exact hz
    have hz1 : (entsF (ps.map EV.val) d != 0) = true := by simpa using hz
    clear hz
    replace L_r := Lib.hid (L_r.out.alloc (.cells #[.int .i64 0, .slice none 0 0] 113))
    replace B := Lib.hid (B.out.trans (b1.mono B.out.size))
    replace B := Lib.hid (B.out.alloc B.out.size (.cells #[.int .i64 0, .slice none 0 0] 113))
    clear b1
    have z0 : (W1.alloc (.cells #[.int .i64 0, .slice none 0 0] 113)).cell? ⟨w.heap.size, 0, none⟩ = some (.int .i64 0) := L_r.out.cell 0
    have z1 : (W1.alloc (.cells #[.int .i64 0, .slice none 0 0] 113)).cell? ⟨w.heap.size, 1, none⟩ = some (.slice none 0 0) := L_r.out.cell 1
    have y0 : (W1.alloc (.cells #[.int .i64 0, .slice none 0 0] 113)).frozen? ⟨w.heap.size, 0, none⟩ = false := L_r.out.thawed 0
    have y1 : (W1.alloc (.cells #[.int .i64 0, .slice none 0 0] 113)).frozen? ⟨w.heap.size, 1, none⟩ = false := L_r.out.thawed 1
    go_wp2
    refine bodyPost_ret (v := .tuple #[.agg #[.int .i64 0, .slice none 0 0], .int .i64 (entsF (ps.map EV.val) d)]) (by simp [results, Try.results89, go_sem, z0, z1]) rfl ⟨(B.out.setCell (Nat.le_refl _) _).setCell (Nat.le_refl _) _, Or.inl ⟨HNZ.out, ret_two rfl (int_val HF.out.symm)⟩⟩
  have hz1 : (entsF (ps.map EV.val) d != 0) = false := by simp [hz]
  have HZ := Lib.hid hz
  have HO := Lib.hid hO
  have FR := Lib.hid (hF.lower (Nat.le_of_lt hW0))
  have HSF := Lib.hid ((SlotsF.of hS hF).alloc (.cells #[.int .i64 d, .slice A' n c'] 113))
  have L_b := Lib.hid (Lies.new W1 113 #[.int .i64 d, .slice A' n c'])
  replace L_r := Lib.hid (L_r.out.alloc (.cells #[.int .i64 d, .slice A' n c'] 113))
  replace B := Lib.hid (B.out.trans (b1.mono B.out.size))
  replace B := Lib.hid (B.out.alloc B.out.size (.cells #[.int .i64 d, .slice A' n c'] 113))
  clear b1 hz hS hO hF
  have c0 : (W1.alloc (.cells #[.int .i64 d, .slice A' n c'] 113)).cell? ⟨W1.heap.size, 0, none⟩ = some (.int .i64 d) := L_b.out.cell 0
  have c1 : (W1.alloc (.cells #[.int .i64 d, .slice A' n c'] 113)).cell? ⟨W1.heap.size, 1, none⟩ = some (.slice A' n c') := L_b.out.cell 1
  by_cases h4 : n < 4
  · have HF := Lib.hid (enoughF_few HZ.out (by rw [HL.out]; exact h4))
    have HNZ : Hid (enoughF (ps.map EV.val) d ≠ 0) := by show enoughF _ _ ≠ 0; rw [HF.out]; decide
    have h41 : (n : Int) < 4 := by omega
    go_wp2_with fail
    refine (bodyCount_any _ _ _ _ _).mono ?_
    rintro e W2 ⟨rfl, b2⟩
    replace L_r := Lib.hid (L_r.out.kept b2 L_r.out.inside)
    replace B := Lib.hid (B.out.trans (b2.mono B.out.size))
    clear b2 c0 c1
    have z0 : W2.cell? ⟨w.heap.size, 0, none⟩ = some (.int .i64 0) := L_r.out.cell 0
    have z1 : W2.cell? ⟨w.heap.size, 1, none⟩ = some (.slice none 0 0) := L_r.out.cell 1
    have y0 : W2.frozen? ⟨w.heap.size, 0, none⟩ = false := L_r.out.thawed 0
    have y1 : W2.frozen? ⟨w.heap.size, 1, none⟩ = false := L_r.out.thawed 1
    go_wp2
    refine bodyPost_ret (v := .tuple #[.agg #[.int .i64 0, .slice none 0 0], .int .i64 2]) (by simp [results, Try.results89, go_sem, z0, z1]) rfl ⟨(B.out.setCell (Nat.le_refl _) _).setCell (Nat.le_refl _) _, Or.inl ⟨HNZ.out, ret_two rfl (int_val HF.out.symm)⟩⟩
  · have HF := Lib.hid (enoughF_ok HZ.out (by rw [HL.out]; exact h4))
    have h41 : ¬ (n : Int) < 4 := by omega
    go_wp2_with fail
    refine (bodyCount_any _ _ _ _ _).mono ?_
    rintro e W2 ⟨rfl, b2⟩
    have HSF2 : Hid (SlotsF W2 (w.alloc (.cells #[.int .i64 0, .slice none 0 0] 113)).heap.size W1.heap.size A' n ss) := ⟨HSF.out.S.kept b2, HSF.out.I⟩
    replace L_r := Lib.hid (L_r.out.kept b2 L_r.out.inside)
    replace L_b := Lib.hid (L_b.out.kept b2 L_b.out.inside)
    replace B := Lib.hid (B.out.trans (b2.mono B.out.size))
    clear b2 c0 c1
    have x0 : W2.cell? ⟨W1.heap.size, 0, none⟩ = some (.int .i64 d) := L_b.out.cell 0
    have x1 : W2.cell? ⟨W1.heap.size, 1, none⟩ = some (.slice A' n c') := L_b.out.cell 1
    have z0 : W2.cell? ⟨w.heap.size, 0, none⟩ = some (.int .i64 0) := L_r.out.cell 0
    have z1 : W2.cell? ⟨w.heap.size, 1, none⟩ = some (.slice none 0 0) := L_r.out.cell 1
    have y0 : W2.frozen? ⟨w.heap.size, 0, none⟩ = false := L_r.out.thawed 0
    have y1 : W2.frozen? ⟨w.heap.size, 1, none⟩ = false := L_r.out.thawed 1
    go_wp2
    refine bodyPost_ret (v := .tuple #[.agg #[.int .i64 d, .slice A' n c'], .int .i64 0]) (by simp [results, Try.results89, go_sem, z0, z1]) rfl ⟨(B.out.setCell (Nat.le_refl _) _).setCell (Nat.le_refl _) _, Or.inr ⟨HF.out, A', c', ss, rfl, ?_, HO.out, FR.out⟩⟩
    exact ((HSF2.out.far (Or.inl hW0) _).far (Or.inl hW0) _).S

/-- The areas of the boxes, one by one. -/
def areasE (dd : Nat) (vs : List EVal) : List Int := vs.map fun v => areaTo v.1 v.2.1 dd
theorem areasE_at {dd : Nat} {vs : List EVal} {k : Nat} {v : EVal} (h : vs[k]? = some v) : (areasE dd vs)[k]? = some (areaTo v.1 v.2.1 dd) := by simp [areasE, h]

/-- Where the loop of areas stands. -/
structure Wasting (w wr : World) (bd : Array Value) (k : Nat) (zs : List Int) (v : Value) : Prop where
  b : Below w.heap.size w wr
  m : Lies wr w.heap.size 113 bd
  a : Lies wr (w.heap.size + 1) 29 #[v]
  S : wr.ownsRow (w.heap.size + 1 + 1) 2 1 v k (zs.map (Value.int .i64))

section
variable {w wr : World} {bd : Array Value} {k : Nat} {zs : List Int} {v : Value}
theorem Wasting.alloc (h : Wasting w wr bd k zs v) (o : Obj) : Wasting w (wr.alloc o) bd k zs v := ⟨h.b.alloc h.b.size o, h.m.alloc o, h.a.alloc o, h.S.alloc o⟩
theorem Wasting.drew (h : Wasting w wr bd k zs v) : Wasting w wr.drew bd k zs v := ⟨h.b.drew, h.m, h.a, h.S.drew⟩
theorem Wasting.call {W : World} (h : Wasting w wr bd k zs v) (hb : Below wr.heap.size wr W) : Wasting w W bd k zs v := ⟨h.b.trans (hb.mono h.b.size), h.m.kept hb h.m.inside, h.a.kept hb h.a.inside, ownsRow_below h.S hb⟩
theorem Wasting.mid {w1 : World} (h : Wasting w wr bd k zs v) (hg : wr.grownBy w1 v.ownBlock) : Lies w1 (w.heap.size + 1) 29 #[v] :=
  (hg.block _ h.a.inside (fun e => by have := (ownsRow_block2 h.S _ e.symm).1; omega)).trans h.a
theorem Wasting.put {w1 : World} {g cap : Nat} {z : Int} (h : Wasting w wr bd k zs v) (ho : w1.ownsRow (w.heap.size + 1 + 1) 2 1 (.slice (some ⟨g, 0, none⟩) (k + 1) cap) (k + 1) (zs.map (Value.int .i64) ++ [.int .i64 z])) (hg : wr.grownBy w1 v.ownBlock) :
    Wasting w (w1.setCell ⟨w.heap.size + 1, 0, none⟩ (.slice (some ⟨g, 0, none⟩) (k + 1) cap)) bd (k + 1) (zs ++ [z]) (.slice (some ⟨g, 0, none⟩) (k + 1) cap) := by
  have hb := ownsRow_block2 h.S
  refine ⟨(below_grown2 h.b hg (fun r e => by have := (hb r e).1; omega) h.b.size).setCell (by show w.heap.size ≤ w.heap.size + 1; omega) _, ?_, (h.mid hg).set 0 _, ?_⟩
  · exact Lies.far ((hg.block _ h.m.inside (fun e => by have := (hb _ e.symm).1; omega)).trans h.m) (by show w.heap.size ≠ w.heap.size + 1; omega) _
  · rw [List.map_append]
    exact ownsRow_far2 ho (by show w.heap.size + 1 < _; omega) _
end
theorem Wasting.start (w : World) (bd : Array Value) : Wasting w ((w.alloc (.cells bd 113)).alloc (.cells #[.slice none 0 0] 29)) bd 0 [] (.slice none 0 0) := by
  have h := Lies.new (w.alloc (.cells bd 113)) 29 #[.slice none 0 0]
  simp only [World.size_alloc] at h
  exact ⟨(below_alloc _ _).alloc (below_alloc _ _).size _, (Lies.new w _ _).alloc _, h, ⟨rfl, Or.inl ⟨rfl, rfl⟩⟩⟩

/-- What waste's closure needs: the bunch, the areas. -/
structure Wastes (w : World) (g1 g2 : Nat) (d : Int) (A A2 : Option Addr) (n c c2 dd : Nat) (vs : List EVal) : Prop where
  m : Lies w g1 113 #[.int .i64 d, .slice A n c]
  a : Lies w g2 29 #[.slice A2 n c2]
  I : Ints w 0 A2 n (areasE dd vs)
theorem Wastes.kept {w w' : World} {g1 g2 : Nat} {d : Int} {A A2 : Option Addr} {n c c2 dd : Nat} {vs : List EVal} (h : Wastes w g1 g2 d A A2 n c c2 dd vs) (hb : Below w.heap.size w w') : Wastes w' g1 g2 d A A2 n c c2 dd vs := ⟨h.m.kept hb h.m.inside, h.a.kept hb h.a.inside, h.I.kept hb⟩

set_option maxRecDepth 100000 in
set_option maxHeartbeats 6400000 in
theorem waste_any (d : Int) (n c dd : Nat) (A : Option Addr) (vs : List EVal) (ss : List SL) (w : World) (hp : Slots w A n ss) (ho : SlotsOf vs ss) (hn : n ≤ 8) (hr : ∀ (j : Nat) (u : EVal), vs[j]? = some u → Right u.1 u.2.1 dd) (hd : d = dd) :
    Calls Try.prog 138 #[.agg #[.int .i64 d, .slice A n c]] w fun e w' => e = .returned (.func (.func 170) #[] #[.pointer (some ⟨w.heap.size, 0, none⟩), .pointer (some ⟨w.heap.size + 1, 0, none⟩)]) ∧ (∃ (A2 : Option Addr) (c2 : Nat), Wastes w' w.heap.size (w.heap.size + 1) d A A2 n c c2 dd vs) ∧ Below w.heap.size w w' := by
  have HP := Lib.hid hp
  have HO := Lib.hid ho
  have HE := Lib.hid hr
  have HL : Hid (vs.length = n) := ho.1.symm.trans hp.1
  have HD := Lib.hid hd
  have hmf := run_makeFunc
  clear hp ho hr hd
  obtain ⟨i0, hi0, hz0, hz1, hz2⟩ := info_parts_i64
  have IP := Lib.hid (And.intro hi0 (And.intro hz0 (And.intro hz1 hz2)))
  clear hi0 hz0 hz1 hz2
  go_enter Try.func138, Try.ntmps138
  go_wp2
  go_loopw [9] (fun i wr => ∃ (k : Nat) (v : Value) (zs : List Int), k ≤ n ∧ i = .int .i64 (k : Int) ∧ Hid (Wasting w wr #[.int .i64 d, .slice A n c] k zs v) ∧ Hid (zs = (areasE dd vs).take k)) (fun i _ => n - (intOf i).toNat)
  case atStart => exact ⟨0, .slice none 0 0, [], Nat.zero_le _, rfl, Wasting.start w _, rfl⟩
  case round =>
    obtain ⟨k, v, zs, hk, rfl, hU, hV⟩ := hrel
    by_cases hlt : k < n
    · obtain ⟨b, o, p0, p1, p2, q0, q1, q2, ref, nsn, rfl, hb, d0, d1, d2, d3, d4, d5, d6, d7, hx⟩ := HP.out.cellAt hlt
      have e0 : wr.cell? ⟨b, o + k * 8, none⟩ = some (.int .i64 p0) := (hU.out.b.cell (p := ⟨b, o + k * 8, none⟩) hb).trans d0
      have e1 : wr.cell? ⟨b, o + k * 8 + 1, none⟩ = some (.int .i64 p1) := (hU.out.b.cell (p := ⟨b, o + k * 8 + 1, none⟩) hb).trans d1
      have e2 : wr.cell? ⟨b, o + k * 8 + 2, none⟩ = some (.int .i64 p2) := (hU.out.b.cell (p := ⟨b, o + k * 8 + 2, none⟩) hb).trans d2
      have e3 : wr.cell? ⟨b, o + k * 8 + 3, none⟩ = some (.int .i64 q0) := (hU.out.b.cell (p := ⟨b, o + k * 8 + 3, none⟩) hb).trans d3
      have e4 : wr.cell? ⟨b, o + k * 8 + 4, none⟩ = some (.int .i64 q1) := (hU.out.b.cell (p := ⟨b, o + k * 8 + 4, none⟩) hb).trans d4
      have e5 : wr.cell? ⟨b, o + k * 8 + 5, none⟩ = some (.int .i64 q2) := (hU.out.b.cell (p := ⟨b, o + k * 8 + 5, none⟩) hb).trans d5
      have e6 : wr.cell? ⟨b, o + k * 8 + 6, none⟩ = some (.int .i64 ref) := (hU.out.b.cell (p := ⟨b, o + k * 8 + 6, none⟩) hb).trans d6
      have e7 : wr.cell? ⟨b, o + k * 8 + 7, none⟩ = some (.int .i64 nsn) := (hU.out.b.cell (p := ⟨b, o + k * 8 + 7, none⟩) hb).trans d7
      clear d0 d1 d2 d3 d4 d5 d6 d7
      obtain ⟨ev, hev, hso⟩ := HO.out.at hx.out
      obtain ⟨x1, x2, ref', nsn'⟩ := ev
      obtain ⟨hp1, hq1, hr1, hn1⟩ := hso
      simp only at hr1 hn1 hp1 hq1
      have hRk := HE.out k _ hev
      simp only at hRk
      obtain ⟨U, hU1'⟩ : ∃ U, U = areaTo x1 x2 dd := ⟨_, rfl⟩
      have hV2 : Hid (zs ++ [U] = (areasE dd vs).take (k + 1)) := by
        show _ = _
        rw [List.take_add_one, hV.out, hU1', areasE_at hev]; rfl
      have H1 := Lib.hid hp1
      have H2 := Lib.hid hq1
      have HRk := Lib.hid hRk
      replace hU1' := Lib.hid hU1'
      clear hx hev hp1 hq1 hr1 hn1 hRk hV
      go_wp2
      clear e0 e1 e2 e3 e4 e5 e6 e7
      generalize hW : (wr.alloc (.cells #[.int .i64 p0, .int .i64 p1, .int .i64 p2, .int .i64 q0, .int .i64 q1, .int .i64 q2, .int .i64 ref, .int .i64 nsn] 150)) = W0 at *
      have hU0 : Hid (Wasting w W0 #[.int .i64 d, .slice (some ⟨b, o, none⟩) n c] k zs v) := by rw [← hW]; exact hU.out.alloc _
      have hE : Hid (Lies W0 wr.heap.size 150 #[.int .i64 p0, .int .i64 p1, .int .i64 p2, .int .i64 q0, .int .i64 q1, .int .i64 q2, .int .i64 ref, .int .i64 nsn]) := by rw [← hW]; exact Lies.new _ _ _
      have hUS := ownsRow_block2 hU.out.S
      clear hW hU
      have ke0 : W0.cell? ⟨wr.heap.size, 0, none⟩ = some (.int .i64 p0) := hE.out.cell 0
      have ke1 : W0.cell? ⟨wr.heap.size, 1, none⟩ = some (.int .i64 p1) := hE.out.cell 1
      have ke2 : W0.cell? ⟨wr.heap.size, 2, none⟩ = some (.int .i64 p2) := hE.out.cell 2
      have ke3 : W0.cell? ⟨wr.heap.size, 3, none⟩ = some (.int .i64 q0) := hE.out.cell 3
      have ke4 : W0.cell? ⟨wr.heap.size, 4, none⟩ = some (.int .i64 q1) := hE.out.cell 4
      have ke5 : W0.cell? ⟨wr.heap.size, 5, none⟩ = some (.int .i64 q2) := hE.out.cell 5
      have kd : W0.cell? ⟨w.heap.size, 0, none⟩ = some (.int .i64 d) := hU0.out.m.cell 0
      have ka : W0.cell? ⟨w.heap.size + 1, 0, none⟩ = some v := hU0.out.a.cell 0
      go_region_law
        (first
          | (apply step_append_lies (s := .tmp 13) (x := .tmp 19) (t := 29) (base := w.heap.size + 1 + 1) (e := 2) (i := i0) (z := .int .i64 0) (size := 1) (bytes := 8) (v := v) (n := k) (xs := zs.map (Value.int .i64)) (ad := ⟨W1.heap.size, 0, none⟩) (m := 1) (c := 1) (news := [.int .i64 U]) (H := W1.heap.size + 1)
             case hgd => rfl
             case ho => rfl
             case ht => exact Try.underlying29
             case hi => exact IP.out.1
             case hz => exact IP.out.2.1
             case hsize => exact IP.out.2.2.1
             case hby => exact IP.out.2.2.2
             case hzs => rfl
             case hsz => omega
             case hs => rfl
             case hown => with_reducible (repeat (first | exact hU1.out.S | refine World.ownsRow.drew ?_ | refine World.ownsRow.alloc ?_ _))
             case hx => rfl
             case hl => rfl
             case hnews => exact World.news_of_block (cs := #[.int .i64 U]) (t := 2) (fr := (0, 0)) (by (with_reducible (repeat (refine Lies.drew ?_))); exact Lies.laid rfl)
             case h1 => simp [Value.oneCell']
             case hm => omega
             case h63 => unfold maxLen; omega
             case hbytes => omega
             case hbase => have h9 := hU1.out.a.inside; simp only [size_of_drew, World.size_alloc]; omega
             case hH => simp only [size_of_drew, World.size_alloc]
             intro gg cap w1 hown1 hgrow hat hlt1
             have hS1 : Lies w1 (w.heap.size + 1) 29 #[v] := by
               refine Wasting.mid (bd := #[.int .i64 d, .slice (some ⟨b, o, none⟩) n c]) (k := k) (zs := zs) ?_ hgrow
               with_reducible (repeat (first | exact hU1.out | refine Wasting.drew ?_ | refine Wasting.alloc ?_ _))
             have hS2 : Hid (Wasting w (w1.setCell ⟨w.heap.size + 1, 0, none⟩ (.slice (some ⟨gg, 0, none⟩) (k + 1) cap)) #[.int .i64 d, .slice (some ⟨b, o, none⟩) n c] (k + 1) (zs ++ [U]) (.slice (some ⟨gg, 0, none⟩) (k + 1) cap)) := by
               refine Wasting.put ?_ hown1 hgrow
               with_reducible (repeat (first | exact hU1.out | refine Wasting.drew ?_ | refine Wasting.alloc ?_ _))
             have s0 : w1.cell? ⟨w.heap.size + 1, 0, none⟩ = some v := hS1.cell 0
             have s1 : w1.frozen? ⟨w.heap.size + 1, 0, none⟩ = false := hS1.thawed 0)
          | (go_simp; go_at_call 135; refine (area_is U _ _ _ _ _ _ _ dd x1 x2 _ H1.out H2.out HRk.out HD.out hU1'.out).mono ?_
             rintro e W1 ⟨rfl, b1d⟩
             have b1 := below_drawn b1d
             have hU1 := Lib.hid (hU0.out.call b1)
             have l4 : W1.cell? ⟨w.heap.size + 1, 0, none⟩ = some v := hU1.out.a.cell 0
             have hsz1 : w.heap.size + 1 < W1.heap.size := hU1.out.a.inside
             have ne1 : ¬ w.heap.size + 1 = W1.heap.size := by omega
             have ne2 : ¬ W1.heap.size = w.heap.size + 1 := by omega
             clear b1 b1d
             dsimp only))
      all_goals
        go_wp2
        go_roundw
        case rel => exact ⟨k + 1, _, _, by omega, by go_num, hS2, hV2⟩
        case measure => simp [intOf]; omega
    · have hkn : k = n := by omega
      subst hkn
      have HK : Hid (zs = areasE dd vs) := by
        have := hV.out
        rwa [List.take_of_length_le (by simp [areasE, HL.out])] at this
      have hks := HK.out
      subst hks
      obtain ⟨A', c', hv, hI⟩ := ints_of_owns hU.out.S
      subst hv
      have W9 : Hid (Wastes wr w.heap.size (w.heap.size + 1) d A A' k c c' dd vs) := ⟨hU.out.m, hU.out.a, hI.lower (Nat.zero_le _)⟩
      go_wp2
      go_ret
      exact ⟨rfl, ⟨A', c', W9.out⟩, hU.out.b⟩

set_option maxRecDepth 100000 in
set_option maxHeartbeats 12800000 in
theorem wasteOne_any (g1 g2 i j : Nat) (d : Int) (n c c2 dd : Nat) (A A2 : Option Addr) (vs : List EVal) (ss : List SL) (w : World) (hw : Wastes w g1 g2 d A A2 n c c2 dd vs) (hp : Slots w A n ss) (ho : SlotsOf vs ss) (hr : ∀ (j : Nat) (u : EVal), vs[j]? = some u → Right u.1 u.2.1 dd) (hd : d = dd) (hi : i < n) (hj : j < n) :
    Calls Try.prog 170 #[.int .i64 (i : Int), .int .i64 (j : Int), .pointer (some ⟨g1, 0, none⟩), .pointer (some ⟨g2, 0, none⟩)] w fun e w' => e = .returned (.int .i64 (wasteAt vs dd i j)) ∧ Below w.heap.size w w' := by
  have HL : vs.length = n := ho.1.symm.trans hp.1
  obtain ⟨b, o, p0, p1, p2, q0, q1, q2, ref, nsn, rfl, h_b, d0, d1, d2, d3, d4, d5, d6, d7, hx⟩ := hp.cellAt hi
  obtain ⟨b', o', r0, r1, r2, s0, s1, s2, ref', nsn', hA, _, f0, f1, f2, f3, f4, f5, f6, f7, hz⟩ := hp.cellAt hj
  injection hA with hA
  injection hA with hA1 hA2
  subst hA1 hA2
  obtain ⟨⟨x1, x2, ru, nu⟩, hu, hsu⟩ := ho.at hx.out
  obtain ⟨⟨z1, z2, rv, nv⟩, hv, hsv⟩ := ho.at hz.out
  have R1 := hr i _ hu
  have R2 := hr j _ hv
  simp only at R1 R2
  have hWW := waste_small R1 R2
  have hWA := wasteAt_of (dd := dd) hu hv
  simp only at hWA
  obtain ⟨P1, P2, _, _⟩ := hsu
  obtain ⟨Q1, Q2, _, _⟩ := hsv
  simp only at P1 P2 Q1 Q2
  obtain ⟨ba, oa, y, rfl, _, h_ba, a1, ha⟩ := hw.I.cellAt hi
  obtain ⟨ba', oa', y', hA, _, _, a2, ha'⟩ := hw.I.cellAt hj
  injection hA with hA
  injection hA with hA1 hA2
  subst hA1 hA2
  obtain ⟨G, hG⟩ : ∃ G, G = areaTo (mins x1 z1) (maxs x2 z2) dd := ⟨_, rfl⟩
  obtain ⟨U, hU⟩ : ∃ U, U = areaTo x1 x2 dd := ⟨_, rfl⟩
  obtain ⟨V, hV⟩ : ∃ V, V = areaTo z1 z2 dd := ⟨_, rfl⟩
  have hyU : U = y := by
    have e := ha.out.symm.trans (areasE_at (dd := dd) hu)
    injection e with e
    rw [hU]; exact e.symm
  have hyV : V = y' := by
    have e := ha'.out.symm.trans (areasE_at (dd := dd) hv)
    injection e with e
    rw [hV]; exact e.symm
  subst hyU hyV
  obtain ⟨g0, g0'⟩ := area_small (right_union R1 R2)
  obtain ⟨u0, u0'⟩ := area_small R1
  rw [← hG] at g0 g0'
  rw [← hU] at u0 u0'
  have hW1 : IntKind.i64.wrap (G - U) = G - U := by rw [IntKind.wrap_i64]; omega
  rw [← hG, ← hU, ← hV] at hWW hWA
  have h_g1 := hw.m.inside
  have h_g2 := hw.a.inside
  have c0 := hw.m.cell 0
  have c1 := hw.m.cell 1
  have c3 := hw.a.cell 0

  obtain ⟨t0, ht0⟩ : ∃ t, t = min p0 r0 := ⟨_, rfl⟩
  obtain ⟨t1, ht1⟩ : ∃ t, t = min p1 r1 := ⟨_, rfl⟩
  obtain ⟨t2, ht2⟩ : ∃ t, t = min p2 r2 := ⟨_, rfl⟩
  obtain ⟨t3, ht3⟩ : ∃ t, t = max q0 s0 := ⟨_, rfl⟩
  obtain ⟨t4, ht4⟩ : ∃ t, t = max q1 s1 := ⟨_, rfl⟩
  obtain ⟨t5, ht5⟩ : ∃ t, t = max q2 s2 := ⟨_, rfl⟩
  have pL := pad_mins (R1.len.trans R2.len.symm) P1 Q1
  have pH := pad_maxs (R1.len'.trans R2.len'.symm) P2 Q2
  rw [← ht0, ← ht1, ← ht2] at pL
  rw [← ht3, ← ht4, ← ht5] at pH
  have PL := Lib.hid pL
  have PH := Lib.hid pH
  have HX := Lib.hid (And.intro ht0 (And.intro ht1 (And.intro ht2 (And.intro ht3 (And.intro ht4 ht5)))))
  have HU := Lib.hid (right_union R1 R2)
  have HG := Lib.hid hG
  have HD := Lib.hid hd
  have HWW := Lib.hid hWW
  have HWA := Lib.hid hWA
  have k_0 : w.cell? ⟨g1, 0, none⟩ = some (.int .i64 d) ∧ w.cell? ⟨g1, 1, none⟩ = some (.slice (some ⟨b, o, none⟩) n c) ∧ w.cell? ⟨g2, 0, none⟩ = some (.slice (some ⟨ba, oa, none⟩) n c2) ∧ w.cell? ⟨b, o + i * 8, none⟩ = some (.int .i64 p0) ∧ w.cell? ⟨b, o + i * 8 + 1, none⟩ = some (.int .i64 p1) ∧ w.cell? ⟨b, o + i * 8 + 2, none⟩ = some (.int .i64 p2) ∧ w.cell? ⟨b, o + i * 8 + 3, none⟩ = some (.int .i64 q0) ∧ w.cell? ⟨b, o + i * 8 + 4, none⟩ = some (.int .i64 q1) ∧ w.cell? ⟨b, o + i * 8 + 5, none⟩ = some (.int .i64 q2) ∧ w.cell? ⟨b, o + j * 8, none⟩ = some (.int .i64 r0) ∧ w.cell? ⟨b, o + j * 8 + 1, none⟩ = some (.int .i64 r1) ∧ w.cell? ⟨b, o + j * 8 + 2, none⟩ = some (.int .i64 r2) ∧ w.cell? ⟨b, o + j * 8 + 3, none⟩ = some (.int .i64 s0) ∧ w.cell? ⟨b, o + j * 8 + 4, none⟩ = some (.int .i64 s1) ∧ w.cell? ⟨b, o + j * 8 + 5, none⟩ = some (.int .i64 s2) ∧ w.cell? ⟨ba, oa + i, none⟩ = some (.int .i64 U) ∧ w.cell? ⟨ba, oa + j, none⟩ = some (.int .i64 V) := ⟨c0, c1, c3, d0, d1, d2, d3, d4, d5, f0, f1, f2, f3, f4, f5, a1, a2⟩
  clear hw hp ho hr hd hx hz hu hv R1 R2 hWA hWW P1 P2 Q1 Q2 ha ha' pL pH ht0 ht1 ht2 ht3 ht4 ht5 hG hU hV g0 g0' u0 u0' c0 c1 c3 d0 d1 d2 d3 d4 d5 d6 d7 f0 f1 f2 f3 f4 f5 f6 f7 a1 a2
  go_enter Try.func170, Try.ntmps170
  go_wp2
  go_region_held3 (fun w' => w'.cell? ⟨g1, 0, none⟩ = some (.int .i64 d) ∧ w'.cell? ⟨g1, 1, none⟩ = some (.slice (some ⟨b, o, none⟩) n c) ∧ w'.cell? ⟨g2, 0, none⟩ = some (.slice (some ⟨ba, oa, none⟩) n c2) ∧ w'.cell? ⟨b, o + i * 8, none⟩ = some (.int .i64 p0) ∧ w'.cell? ⟨b, o + i * 8 + 1, none⟩ = some (.int .i64 p1) ∧ w'.cell? ⟨b, o + i * 8 + 2, none⟩ = some (.int .i64 p2) ∧ w'.cell? ⟨b, o + i * 8 + 3, none⟩ = some (.int .i64 q0) ∧ w'.cell? ⟨b, o + i * 8 + 4, none⟩ = some (.int .i64 q1) ∧ w'.cell? ⟨b, o + i * 8 + 5, none⟩ = some (.int .i64 q2) ∧ w'.cell? ⟨b, o + j * 8, none⟩ = some (.int .i64 r0) ∧ w'.cell? ⟨b, o + j * 8 + 1, none⟩ = some (.int .i64 r1) ∧ w'.cell? ⟨b, o + j * 8 + 2, none⟩ = some (.int .i64 r2) ∧ w'.cell? ⟨b, o + j * 8 + 3, none⟩ = some (.int .i64 s0) ∧ w'.cell? ⟨b, o + j * 8 + 4, none⟩ = some (.int .i64 s1) ∧ w'.cell? ⟨b, o + j * 8 + 5, none⟩ = some (.int .i64 s2) ∧ w'.cell? ⟨ba, oa + i, none⟩ = some (.int .i64 U) ∧ w'.cell? ⟨ba, oa + j, none⟩ = some (.int .i64 V))
    (first | (simp [go_sem, k_0]; done) | with_reducible exact k_1 | with_reducible exact k_2 | (simp [go_sem, k_1]; done) | (simp [go_sem, k_2]; done))
    (first
      | (go_at_call 166; refine (union_is _ _ _ _ _ _ _ _ _ _ _ _ t0 t1 t2 t3 t4 t5 _ HX.out).mono ?_
         rintro e W1 ⟨rfl, b1d⟩
         have b1 := below_drawn b1d
         have k_1 : W1.cell? ⟨g1, 0, none⟩ = some (.int .i64 d) ∧ W1.cell? ⟨g1, 1, none⟩ = some (.slice (some ⟨b, o, none⟩) n c) ∧ W1.cell? ⟨g2, 0, none⟩ = some (.slice (some ⟨ba, oa, none⟩) n c2) ∧ W1.cell? ⟨b, o + i * 8, none⟩ = some (.int .i64 p0) ∧ W1.cell? ⟨b, o + i * 8 + 1, none⟩ = some (.int .i64 p1) ∧ W1.cell? ⟨b, o + i * 8 + 2, none⟩ = some (.int .i64 p2) ∧ W1.cell? ⟨b, o + i * 8 + 3, none⟩ = some (.int .i64 q0) ∧ W1.cell? ⟨b, o + i * 8 + 4, none⟩ = some (.int .i64 q1) ∧ W1.cell? ⟨b, o + i * 8 + 5, none⟩ = some (.int .i64 q2) ∧ W1.cell? ⟨b, o + j * 8, none⟩ = some (.int .i64 r0) ∧ W1.cell? ⟨b, o + j * 8 + 1, none⟩ = some (.int .i64 r1) ∧ W1.cell? ⟨b, o + j * 8 + 2, none⟩ = some (.int .i64 r2) ∧ W1.cell? ⟨b, o + j * 8 + 3, none⟩ = some (.int .i64 s0) ∧ W1.cell? ⟨b, o + j * 8 + 4, none⟩ = some (.int .i64 s1) ∧ W1.cell? ⟨b, o + j * 8 + 5, none⟩ = some (.int .i64 s2) ∧ W1.cell? ⟨ba, oa + i, none⟩ = some (.int .i64 U) ∧ W1.cell? ⟨ba, oa + j, none⟩ = some (.int .i64 V) := ⟨(b1.cell (p := ⟨g1, 0, none⟩) h_g1).trans k_0.1, (b1.cell (p := ⟨g1, 1, none⟩) h_g1).trans k_0.2.1, (b1.cell (p := ⟨g2, 0, none⟩) h_g2).trans k_0.2.2.1, (b1.cell (p := ⟨b, o + i * 8, none⟩) h_b).trans k_0.2.2.2.1, (b1.cell (p := ⟨b, o + i * 8 + 1, none⟩) h_b).trans k_0.2.2.2.2.1, (b1.cell (p := ⟨b, o + i * 8 + 2, none⟩) h_b).trans k_0.2.2.2.2.2.1, (b1.cell (p := ⟨b, o + i * 8 + 3, none⟩) h_b).trans k_0.2.2.2.2.2.2.1, (b1.cell (p := ⟨b, o + i * 8 + 4, none⟩) h_b).trans k_0.2.2.2.2.2.2.2.1, (b1.cell (p := ⟨b, o + i * 8 + 5, none⟩) h_b).trans k_0.2.2.2.2.2.2.2.2.1, (b1.cell (p := ⟨b, o + j * 8, none⟩) h_b).trans k_0.2.2.2.2.2.2.2.2.2.1, (b1.cell (p := ⟨b, o + j * 8 + 1, none⟩) h_b).trans k_0.2.2.2.2.2.2.2.2.2.2.1, (b1.cell (p := ⟨b, o + j * 8 + 2, none⟩) h_b).trans k_0.2.2.2.2.2.2.2.2.2.2.2.1, (b1.cell (p := ⟨b, o + j * 8 + 3, none⟩) h_b).trans k_0.2.2.2.2.2.2.2.2.2.2.2.2.1, (b1.cell (p := ⟨b, o + j * 8 + 4, none⟩) h_b).trans k_0.2.2.2.2.2.2.2.2.2.2.2.2.2.1, (b1.cell (p := ⟨b, o + j * 8 + 5, none⟩) h_b).trans k_0.2.2.2.2.2.2.2.2.2.2.2.2.2.2.1, (b1.cell (p := ⟨ba, oa + i, none⟩) h_ba).trans k_0.2.2.2.2.2.2.2.2.2.2.2.2.2.2.2.1, (b1.cell (p := ⟨ba, oa + j, none⟩) h_ba).trans k_0.2.2.2.2.2.2.2.2.2.2.2.2.2.2.2.2⟩
         clear b1d)
      | (go_at_call 135; refine (area_is G _ _ _ _ _ _ _ dd (mins x1 z1) (maxs x2 z2) _ PL.out PH.out HU.out HD.out HG.out).mono ?_
         rintro e W2 ⟨rfl, b2⟩
         have k_2 : W2.cell? ⟨g1, 0, none⟩ = some (.int .i64 d) ∧ W2.cell? ⟨g1, 1, none⟩ = some (.slice (some ⟨b, o, none⟩) n c) ∧ W2.cell? ⟨g2, 0, none⟩ = some (.slice (some ⟨ba, oa, none⟩) n c2) ∧ W2.cell? ⟨b, o + i * 8, none⟩ = some (.int .i64 p0) ∧ W2.cell? ⟨b, o + i * 8 + 1, none⟩ = some (.int .i64 p1) ∧ W2.cell? ⟨b, o + i * 8 + 2, none⟩ = some (.int .i64 p2) ∧ W2.cell? ⟨b, o + i * 8 + 3, none⟩ = some (.int .i64 q0) ∧ W2.cell? ⟨b, o + i * 8 + 4, none⟩ = some (.int .i64 q1) ∧ W2.cell? ⟨b, o + i * 8 + 5, none⟩ = some (.int .i64 q2) ∧ W2.cell? ⟨b, o + j * 8, none⟩ = some (.int .i64 r0) ∧ W2.cell? ⟨b, o + j * 8 + 1, none⟩ = some (.int .i64 r1) ∧ W2.cell? ⟨b, o + j * 8 + 2, none⟩ = some (.int .i64 r2) ∧ W2.cell? ⟨b, o + j * 8 + 3, none⟩ = some (.int .i64 s0) ∧ W2.cell? ⟨b, o + j * 8 + 4, none⟩ = some (.int .i64 s1) ∧ W2.cell? ⟨b, o + j * 8 + 5, none⟩ = some (.int .i64 s2) ∧ W2.cell? ⟨ba, oa + i, none⟩ = some (.int .i64 U) ∧ W2.cell? ⟨ba, oa + j, none⟩ = some (.int .i64 V) := ⟨(b2.cell (p := ⟨g1, 0, none⟩) (Nat.lt_of_lt_of_le h_g1 b1.size)).trans k_1.1, (b2.cell (p := ⟨g1, 1, none⟩) (Nat.lt_of_lt_of_le h_g1 b1.size)).trans k_1.2.1, (b2.cell (p := ⟨g2, 0, none⟩) (Nat.lt_of_lt_of_le h_g2 b1.size)).trans k_1.2.2.1, (b2.cell (p := ⟨b, o + i * 8, none⟩) (Nat.lt_of_lt_of_le h_b b1.size)).trans k_1.2.2.2.1, (b2.cell (p := ⟨b, o + i * 8 + 1, none⟩) (Nat.lt_of_lt_of_le h_b b1.size)).trans k_1.2.2.2.2.1, (b2.cell (p := ⟨b, o + i * 8 + 2, none⟩) (Nat.lt_of_lt_of_le h_b b1.size)).trans k_1.2.2.2.2.2.1, (b2.cell (p := ⟨b, o + i * 8 + 3, none⟩) (Nat.lt_of_lt_of_le h_b b1.size)).trans k_1.2.2.2.2.2.2.1, (b2.cell (p := ⟨b, o + i * 8 + 4, none⟩) (Nat.lt_of_lt_of_le h_b b1.size)).trans k_1.2.2.2.2.2.2.2.1, (b2.cell (p := ⟨b, o + i * 8 + 5, none⟩) (Nat.lt_of_lt_of_le h_b b1.size)).trans k_1.2.2.2.2.2.2.2.2.1, (b2.cell (p := ⟨b, o + j * 8, none⟩) (Nat.lt_of_lt_of_le h_b b1.size)).trans k_1.2.2.2.2.2.2.2.2.2.1, (b2.cell (p := ⟨b, o + j * 8 + 1, none⟩) (Nat.lt_of_lt_of_le h_b b1.size)).trans k_1.2.2.2.2.2.2.2.2.2.2.1, (b2.cell (p := ⟨b, o + j * 8 + 2, none⟩) (Nat.lt_of_lt_of_le h_b b1.size)).trans k_1.2.2.2.2.2.2.2.2.2.2.2.1, (b2.cell (p := ⟨b, o + j * 8 + 3, none⟩) (Nat.lt_of_lt_of_le h_b b1.size)).trans k_1.2.2.2.2.2.2.2.2.2.2.2.2.1, (b2.cell (p := ⟨b, o + j * 8 + 4, none⟩) (Nat.lt_of_lt_of_le h_b b1.size)).trans k_1.2.2.2.2.2.2.2.2.2.2.2.2.2.1, (b2.cell (p := ⟨b, o + j * 8 + 5, none⟩) (Nat.lt_of_lt_of_le h_b b1.size)).trans k_1.2.2.2.2.2.2.2.2.2.2.2.2.2.2.1, (b2.cell (p := ⟨ba, oa + i, none⟩) (Nat.lt_of_lt_of_le h_ba b1.size)).trans k_1.2.2.2.2.2.2.2.2.2.2.2.2.2.2.2.1, (b2.cell (p := ⟨ba, oa + j, none⟩) (Nat.lt_of_lt_of_le h_ba b1.size)).trans k_1.2.2.2.2.2.2.2.2.2.2.2.2.2.2.2.2⟩))
  clear k_0 k_1 k_2
  go_wp2
  go_ret
  exact ⟨ret_i64 (by rw [HWA.out]; first | exact HWW.out | (rw [hW1]; exact HWW.out)), b1.trans (b2.mono b1.size)⟩

end Go.Proofs.Ytbnlgmcjklfcoaa
