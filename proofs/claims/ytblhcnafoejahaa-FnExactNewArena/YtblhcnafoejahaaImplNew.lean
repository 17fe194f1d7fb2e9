/- The walk of impl.NewArena. -/
import Derived.Test.YtblhcnafoejahaaArenaNone
import Derived.Test.YtblhcnafoejahaaRetire1
import Derived.Test.YtblhcnafoejahaaOpenArena
namespace Go.Proofs.Ytblhcnafoejahaa
open Go.RowKit

/-- An empty place in block g. -/
def vacLV (g : Nat) : LV := ⟨g, 0, 0, -1, none, 0, 0, [], [], true, none, 0, 0, []⟩
theorem vacLV_cells (d : Int) (g : Nat) : (vacLV g).cells d = vacPlace d := rfl
theorem vac_node {d : Int} (h : 2 ≤ d ∧ d ≤ 3) : nodeF 0 0 (-1) [] d = 0 := by
  rw [nodeF_twice ⟨h, by omega, by omega, by omega⟩ (by simp) rfl rfl]
  rfl
theorem vacLV_ok {w : World} {lo g : Nat} {d : Int} (hL : Lies w g 107 (vacPlace d)) (hg : lo ≤ g) (hd : 2 ≤ d ∧ d ≤ 3) : PlaceOk w lo d (vacLV g) := by
  refine ⟨hL, ⟨rfl, fun h => absurd h (Nat.lt_irrefl 0)⟩, ⟨rfl, fun k v s hv _ => by simp [vacLV] at hv⟩, vac_node hd, Ints.empty _ _ _, hg, fun h => absurd h (Nat.lt_irrefl 0), fun h => absurd h (Nat.lt_irrefl 0), ?_⟩
  rintro (⟨h, _⟩ | ⟨h, _⟩)
  · exact absurd h (Nat.lt_irrefl 0)
  · exact absurd h (Nat.lt_irrefl 0)

/-- The k-th pointer. -/
def ptrF (gs : List Nat) (j : Nat) : Value := match gs[j]? with | some g => .pointer (some ⟨g, 0, none⟩) | none => .pointer none
theorem ptrF_new {gs : List Nat} {k : Nat} (h : gs.length = k) : ptrF gs k = .pointer none := by unfold ptrF; rw [List.getElem?_eq_none (by omega)]
theorem ptrF_next {gs : List Nat} {k g : Nat} (h : gs.length = k) (j : Nat) : (if j = k then Value.pointer (some ⟨g, 0, none⟩) else ptrF gs j) = ptrF (gs ++ [g]) j := by
  unfold ptrF
  by_cases hj : j = k
  · subst hj; subst h; simp
  · rw [if_neg hj]
    rcases Nat.lt_or_ge j k with h1 | h1
    · rw [List.getElem?_append_left (by omega)]
    · rw [List.getElem?_eq_none (by omega), List.getElem?_eq_none (by simp; omega)]
/-- Where NewArena's loop stands: k places are laid. -/
structure Laying (w wr : World) (pb : Nat) (d : Int) (n k : Nat) (m : Value) (gs : List Nat) : Prop where
  b : Below w.heap.size w wr
  r : Lies wr w.heap.size 57 #[.int .i64 0, .int .i64 0, .slice none 0 0, .slice none 0 0, .slice none 0 0, .int .i64 0]
  p : wr.rowIs pb 105 n (ptrF gs)
  G : Lies wr (pb + 1) 104 #[.int .i64 d, .slice (some ⟨pb, 0, none⟩) n n, m, .slice none 0 0]
  l : gs.length = k
  lo : w.heap.size < pb
  P : ∀ g ∈ gs, pb + 1 + 1 ≤ g ∧ Lies wr g 107 (vacPlace d)
theorem Laying.kept {w wr W : World} {pb : Nat} {d : Int} {n k : Nat} {m : Value} {gs : List Nat} (h : Laying w wr pb d n k m gs) (hb : Below wr.heap.size wr W) : Laying w W pb d n k m gs :=
  ⟨h.b.trans (hb.mono h.b.size), h.r.kept hb h.r.inside, h.p.of_block (hb.block _ h.p.lt), h.G.kept hb h.G.inside, h.l, h.lo, fun g hg => ⟨(h.P g hg).1, (h.P g hg).2.kept hb (h.P g hg).2.inside⟩⟩

theorem Laying.lay {w wr W0 W : World} {pb : Nat} {d : Int} {n k pg : Nat} {m : Value} {gs : List Nat} (h : Laying w wr pb d n k m gs) (hpg : pg = wr.heap.size) (hW : W0 = (wr.alloc (.cells #[.nilIface, .bool false, .slice none 0 0] 107)).setCell ⟨pb, k, none⟩ (.pointer (some ⟨pg, 0, none⟩))) (ht : Turned (fun x => x = pg) W0 W) (hL : Lies W pg 107 (vacPlace d)) :
    Laying w W pb d n (k + 1) m (gs ++ [pg]) := by
  have hs := h.G.inside
  have hw := h.b.size
  have hlo := h.lo
  have ne : ∀ x, x < wr.heap.size → ¬ x = pg := fun x hx e => by omega
  have hB : Below w.heap.size w W0 := by rw [hW]; exact (h.b.alloc h.b.size _).setCell (by show w.heap.size ≤ pb; omega) _
  have hP : W0.rowIs pb 105 n (ptrF (gs ++ [pg])) := by rw [hW]; exact ((h.p.alloc _).set k _).congr fun j _ => ptrF_next h.l j
  have far : ∀ {g : Nat} {t : TypeId} {cs : Array Value}, Lies wr g t cs → g ≠ pb → Lies W0 g t cs := fun hl hg => by rw [hW]; exact (hl.alloc _).far hg _
  refine ⟨ht.below hB (fun x hx => by subst hx; omega), ht.lies (far h.r (by omega)) (ne _ h.r.inside), ?_, ht.lies (far h.G (by omega)) (ne _ hs), by simp [h.l], h.lo, fun g hg => ?_⟩
  · refine hP.of_block (ht.2.2 _ ?_ (ne _ (by omega)))
    rw [hW]; simp only [size_of_setCell, World.size_alloc]; omega
  · rcases List.mem_append.1 hg with hg | hg
    · obtain ⟨h1, h2⟩ := h.P g hg
      exact ⟨h1, ht.lies (far h2 (by omega)) (ne _ h2.inside)⟩
    · simp only [List.mem_singleton] at hg
      subst hg
      exact ⟨by omega, hL⟩

/-- What NewArena answers. -/
def NewOut (d : Int) (n : Nat) (cd : Int) (w : World) (e : Ending) (w' : World) : Prop :=
  Below w.heap.size w w' ∧ ((cd ≠ 0 ∧ e = .returned (.agg #[.int .i64 cd, .int .i64 0, .slice none 0 0, .slice none 0 0, .slice none 0 0, .int .i64 0])) ∨
    (cd = 0 ∧ ∃ (base kf : Nat) (vN vF : Value) (qs : List NV) (gs : List Nat), e = .returned (.agg #[.int .i64 0, .int .i64 d, vN, vF, .slice none 0 0, .int .i64 0]) ∧ w.heap.size ≤ base ∧ gs.length = n ∧ NodesOut w' base vN n qs ∧ w'.ownsRow base 2 1 vF kf ((freeL 0 (gs.map vacLV)).map (Value.int .i64)) ∧ (∀ b, vF.ownBlock = some b → vN.ownBlock ≠ some b ∧ b ∉ nodesB qs) ∧ qs.map NV.val = (gs.map vacLV).map LV.val))

theorem info_ptr6 : (Try.prog.info? 105).map (fun i => (i.zero, i.size, i.bytes)) = some (some (.pointer none), 1, 8) := by kernel_rfl

set_option maxRecDepth 100000 in
set_option maxHeartbeats 12800000 in
theorem implNewArena_any (d r : Int) (w : World) :
    Calls Try.prog 28 #[.int .i64 d, .int .i64 r] w (NewOut d r.toNat (groundF d r) w) := by
  have B := Lib.hid (below_alloc w (.cells #[.int .i64 0, .int .i64 0, .slice none 0 0, .slice none 0 0, .slice none 0 0, .int .i64 0] 57))
  have L_r := Lib.hid (Lies.new w 57 #[.int .i64 0, .int .i64 0, .slice none 0 0, .slice none 0 0, .slice none 0 0, .int .i64 0])
  by_cases hz : groundF d r = 0
  rotate_left
  · have hz1 : (groundF d r != 0) = true := by simpa using hz
    have HZ := Lib.hid hz
    clear hz
    go_enter Try.func28, Try.ntmps28
    go_wp2_with fail
    refine (groundFault_any _ _ _).mono ?_
    rintro e W1 ⟨rfl, b1⟩
    replace L_r := Lib.hid (L_r.out.kept b1 L_r.out.inside)
    replace B := Lib.hid (B.out.trans (b1.mono B.out.size))
    clear b1
    have z0 : W1.cell? ⟨w.heap.size, 0, none⟩ = some (.int .i64 0) := L_r.out.cell 0
    have y0 : W1.frozen? ⟨w.heap.size, 0, none⟩ = false := L_r.out.thawed 0
    have z1 : W1.cell? ⟨w.heap.size, 1, none⟩ = some (.int .i64 0) := L_r.out.cell 1
    have y1 : W1.frozen? ⟨w.heap.size, 1, none⟩ = false := L_r.out.thawed 1
    have z2 : W1.cell? ⟨w.heap.size, 2, none⟩ = some (.slice none 0 0) := L_r.out.cell 2
    have y2 : W1.frozen? ⟨w.heap.size, 2, none⟩ = false := L_r.out.thawed 2
    have z3 : W1.cell? ⟨w.heap.size, 3, none⟩ = some (.slice none 0 0) := L_r.out.cell 3
    have y3 : W1.frozen? ⟨w.heap.size, 3, none⟩ = false := L_r.out.thawed 3
    have z4 : W1.cell? ⟨w.heap.size, 4, none⟩ = some (.slice none 0 0) := L_r.out.cell 4
    have y4 : W1.frozen? ⟨w.heap.size, 4, none⟩ = false := L_r.out.thawed 4
    have z5 : W1.cell? ⟨w.heap.size, 5, none⟩ = some (.int .i64 0) := L_r.out.cell 5
    have y5 : W1.frozen? ⟨w.heap.size, 5, none⟩ = false := L_r.out.thawed 5
    go_wp2
    refine bodyPost_ret (v := .agg #[.int .i64 (groundF d r), .int .i64 0, .slice none 0 0, .slice none 0 0, .slice none 0 0, .int .i64 0]) (by simp [results, Try.results28, go_sem, z0, z1, z2, z3, z4, z5]) rfl ⟨?_, Or.inl ⟨HZ.out, rfl⟩⟩
    repeat (with_reducible refine Below.setCell ?_ (by exact Nat.le_refl _) _)
    exact B.out
  have hd : 2 ≤ d ∧ d ≤ 3 := by
    unfold groundF at hz
    by_cases h : 2 ≤ d ∧ d ≤ 3
    · exact h
    · rw [if_neg h] at hz; omega
  have hr : 4 ≤ r ∧ r ≤ 40 := by
    unfold groundF at hz
    rw [if_pos hd] at hz
    by_cases h : 4 ≤ r ∧ r ≤ 40
    · exact h
    · rw [if_neg h] at hz; omega
  have hz1 : (groundF d r != 0) = false := by simp [hz]
  have HZ := Lib.hid hz
  clear hz
  obtain ⟨n, rfl⟩ : ∃ n : Nat, r = (n : Int) := ⟨r.toNat, by omega⟩
  have hn : n ≤ 40 := by omega
  have hmk := fun W => run_make_row' (P := Try.prog) 101 105 (.pointer none) 8 Try.underlying101 info_ptr6 rfl .i64 .i64 n (by omega) (by omega) W
  go_enter Try.func28, Try.ntmps28
  go_wp2_with fail
  refine (groundFault_any _ _ _).mono ?_
  rintro e W1 ⟨rfl, b1⟩
  replace L_r := Lib.hid (L_r.out.kept b1 L_r.out.inside)
  replace B := Lib.hid (B.out.trans (b1.mono B.out.size))
  clear b1
  have lw1 := L_r.out.inside
  go_wp2
  clear hmk
  go_loopw [25] (fun i wr => ∃ (k : Nat) (m : Value) (gs : List Nat), k ≤ n ∧ i = .int .i64 (k : Int) ∧ Hid (Laying w wr W1.heap.size d n k m gs)) (fun i _ => n - (intOf i).toNat)
  case atStart =>
    refine ⟨0, _, [], Nat.zero_le _, rfl, Lib.hid ⟨(B.out.alloc B.out.size _).alloc (B.out.alloc B.out.size _).size _, (L_r.out.alloc _).alloc _, ?_, Lies.laid2 _ _ _ _, rfl, lw1, fun g hg => by simp at hg⟩⟩
    exact ((World.rowIs_made W1 _ n _).alloc _).congr fun i _ => by simp [ptrF]
  case round =>
    obtain ⟨k, m, gs, hk, rfl, hU⟩ := hrel
    have g1 : wr.cell? ⟨W1.heap.size + 1, 1, none⟩ = some (.slice (some ⟨W1.heap.size, 0, none⟩) n n) := hU.out.G.cell 1
    have hGi := hU.out.G.inside
    by_cases hlt : k < n
    · have p0 : wr.cell? ⟨W1.heap.size, k, none⟩ = some (.pointer none) := by rw [hU.out.p.cell hlt, ptrF_new hU.out.l]
      have p1 : wr.frozen? ⟨W1.heap.size, k, none⟩ = false := hU.out.p.frozen k
      have p2 : (wr.alloc (.cells #[.nilIface, .bool false, .slice none 0 0] 107)).cell? ⟨W1.heap.size, k, none⟩ = some (.pointer none) := by rw [(hU.out.p.alloc _).cell hlt, ptrF_new hU.out.l]
      have p3 : (wr.alloc (.cells #[.nilIface, .bool false, .slice none 0 0] 107)).frozen? ⟨W1.heap.size, k, none⟩ = false := (hU.out.p.alloc _).frozen k
      obtain ⟨W0, hW0⟩ : ∃ W0, W0 = (wr.alloc (.cells #[.nilIface, .bool false, .slice none 0 0] 107)).setCell ⟨W1.heap.size, k, none⟩ (.pointer (some ⟨wr.heap.size, 0, none⟩)) := ⟨_, rfl⟩
      have lG : Lies W0 (W1.heap.size + 1) 104 #[.int .i64 d, .slice (some ⟨W1.heap.size, 0, none⟩) n n, m, .slice none 0 0] := by rw [hW0]; exact (hU.out.G.alloc _).far (by show W1.heap.size + 1 ≠ W1.heap.size; omega) _
      have lP : Lies W0 wr.heap.size 107 #[.nilIface, .bool false, .slice none 0 0] := by rw [hW0]; exact (Lies.new wr _ _).far (by show wr.heap.size ≠ W1.heap.size; omega) _
      have cP : W0.cell? ⟨W1.heap.size, k, none⟩ = some (.pointer (some ⟨wr.heap.size, 0, none⟩)) := by
        have h := ((hU.out.p.alloc (.cells #[.nilIface, .bool false, .slice none 0 0] 107)).set k (.pointer (some ⟨wr.heap.size, 0, none⟩))).cell hlt
        rw [hW0]
        simpa using h
      have HG := Lib.hid lG
      have HPl := Lib.hid lP
      have HCP := Lib.hid cP
      have HW0 := Lib.hid hW0
      clear lG lP cP
      go_wp2_with fail
      rw [← hW0]
      clear hW0
      refine (vacate_any d (W1.heap.size + 1) W1.heap.size n n k wr.heap.size _ _ _ m _ _ HG.out HCP.out HPl.out (by omega) (by omega) hlt hn).mono ?_
      rintro e W3 ⟨rfl, t3, l3⟩
      have hU2 := Lib.hid (hU.out.lay (pg := wr.heap.size) rfl HW0.out t3 l3)
      clear t3 l3 hU g1 p0 p1 p2 p3 HG HPl HCP HW0 hGi
      go_wp2
      go_roundw
      case rel => exact ⟨k + 1, m, _, by omega, by go_num, hU2⟩
      case measure => simp [intOf]; omega
    · have hkn : k = n := by omega
      subst hkn
      have HPO : Hid (∀ p ∈ gs.map vacLV, PlaceOk wr (W1.heap.size + 1 + 1) d p) := by
        intro p hp
        obtain ⟨g, hg, rfl⟩ := List.mem_map.1 hp
        exact vacLV_ok (hU.out.P g hg).2 (hU.out.P g hg).1 hd
      have HPT : Hid (∀ (j : Nat) (p : LV), (gs.map vacLV)[j]? = some p → wr.cell? ⟨W1.heap.size, j, none⟩ = some p.ptr) := by
        intro j p hj
        rw [List.getElem?_map] at hj
        obtain ⟨g, hg, rfl⟩ := Option.map_eq_some_iff.1 hj
        have hjn : j < k := by have := (List.getElem?_eq_some_iff.1 hg).1; rw [hU.out.l] at this; exact this
        rw [hU.out.p.cell hjn]
        unfold ptrF; rw [hg]; rfl
      go_wp2_with fail
      refine (arenaNone_any (W1.heap.size + 1 + 1) (W1.heap.size + 1) W1.heap.size k k d m (gs.map vacLV) _ hU.out.G HPO.out HPT.out (by rw [List.length_map]; exact hU.out.l) (by omega) hn).mono ?_
      rintro e W3 ⟨kf, vN, vF, qs, rfl, hN, hF, hD, hQ, b3⟩
      have LR := Lib.hid (hU.out.r.kept b3 hU.out.r.inside)
      have BB := Lib.hid (hU.out.b.trans (b3.mono hU.out.b.size))
      have hlo := hU.out.lo
      have hl := hU.out.l
      have hri := hU.out.r.inside
      obtain ⟨A1, k1, hv1⟩ : ∃ A c, vN = .slice A k c := by
        rcases hN.S.2 with ⟨e, e2⟩ | ⟨g, cap, cur, e, _⟩
        · subst e2; exact ⟨none, 0, e⟩
        · exact ⟨_, _, e⟩
      obtain ⟨A2, k2, hv2⟩ : ∃ A c, vF = .slice A kf c := by
        rcases hF.2 with ⟨e, e2⟩ | ⟨g, cap, cur, e, _⟩
        · subst e2; exact ⟨none, 0, e⟩
        · exact ⟨_, _, e⟩
      subst hv1
      subst hv2
      have HN := Lib.hid hN
      have HF := Lib.hid hF
      have HD := Lib.hid hD
      have HQ := Lib.hid hQ
      have lt2 : w.heap.size < wr.heap.size + 1 + 1 := by omega
      clear hN hF hD hQ b3 hU g1 hGi HPO HPT
      have z0 : W3.cell? ⟨w.heap.size, 0, none⟩ = some (.int .i64 0) := LR.out.cell 0
      have y0 : W3.frozen? ⟨w.heap.size, 0, none⟩ = false := LR.out.thawed 0
      have z1 : W3.cell? ⟨w.heap.size, 1, none⟩ = some (.int .i64 0) := LR.out.cell 1
      have y1 : W3.frozen? ⟨w.heap.size, 1, none⟩ = false := LR.out.thawed 1
      have z2 : W3.cell? ⟨w.heap.size, 2, none⟩ = some (.slice none 0 0) := LR.out.cell 2
      have y2 : W3.frozen? ⟨w.heap.size, 2, none⟩ = false := LR.out.thawed 2
      have z3 : W3.cell? ⟨w.heap.size, 3, none⟩ = some (.slice none 0 0) := LR.out.cell 3
      have y3 : W3.frozen? ⟨w.heap.size, 3, none⟩ = false := LR.out.thawed 3
      have z4 : W3.cell? ⟨w.heap.size, 4, none⟩ = some (.slice none 0 0) := LR.out.cell 4
      have y4 : W3.frozen? ⟨w.heap.size, 4, none⟩ = false := LR.out.thawed 4
      have z5 : W3.cell? ⟨w.heap.size, 5, none⟩ = some (.int .i64 0) := LR.out.cell 5
      have y5 : W3.frozen? ⟨w.heap.size, 5, none⟩ = false := LR.out.thawed 5
      have N4 := Lib.hid (((((((HN.out.far (a := ⟨w.heap.size, 0, none⟩) lt2 (.int .i64 0)).far (a := ⟨w.heap.size, 1, none⟩) lt2 (.int .i64 d)).far (a := ⟨w.heap.size, 2, none⟩) lt2 (.slice A1 k k1)).far (a := ⟨w.heap.size, 3, none⟩) lt2 (.slice A2 kf k2)).far (a := ⟨w.heap.size, 4, none⟩) lt2 (.slice none 0 0)).far (a := ⟨w.heap.size, 5, none⟩) lt2 (.int .i64 0)))
      have F4 := Lib.hid ((ownsRow_far2 (ownsRow_far2 (ownsRow_far2 (ownsRow_far2 (ownsRow_far2 (ownsRow_far2 HF.out (a := ⟨w.heap.size, 0, none⟩) lt2 (.int .i64 0)) (a := ⟨w.heap.size, 1, none⟩) lt2 (.int .i64 d)) (a := ⟨w.heap.size, 2, none⟩) lt2 (.slice A1 k k1)) (a := ⟨w.heap.size, 3, none⟩) lt2 (.slice A2 kf k2)) (a := ⟨w.heap.size, 4, none⟩) lt2 (.slice none 0 0)) (a := ⟨w.heap.size, 5, none⟩) lt2 (.int .i64 0)))
      have B4 := Lib.hid (((((((BB.out.setCell (p := ⟨w.heap.size, 0, none⟩) (Nat.le_refl _) (.int .i64 0)).setCell (p := ⟨w.heap.size, 1, none⟩) (Nat.le_refl _) (.int .i64 d)).setCell (p := ⟨w.heap.size, 2, none⟩) (Nat.le_refl _) (.slice A1 k k1)).setCell (p := ⟨w.heap.size, 3, none⟩) (Nat.le_refl _) (.slice A2 kf k2)).setCell (p := ⟨w.heap.size, 4, none⟩) (Nat.le_refl _) (.slice none 0 0)).setCell (p := ⟨w.heap.size, 5, none⟩) (Nat.le_refl _) (.int .i64 0)))
      clear HN HF BB
      go_wp2
      refine bodyPost_ret (v := .agg #[.int .i64 0, .int .i64 d, .slice A1 k k1, .slice A2 kf k2, .slice none 0 0, .int .i64 0]) (by simp [results, Try.results28, go_sem, z0, z1, z2, z3, z4, z5]) rfl ⟨B4.out, Or.inr ⟨HZ.out, wr.heap.size + 1 + 1, kf, _, _, qs, gs, rfl, by omega, ?_, N4.out, F4.out, HD.out, HQ.out⟩⟩
      rw [hl]; simp

end Go.Proofs.Ytblhcnafoejahaa
