/- The walks of impl.ground's retire, whoever watches, and of impl.RetireNode. -/
import Derived.Test.YtpgoildfjkokiaaGreatImplRelease
namespace Go.Proofs.YtpgoildfjkokiaaGreat
open Go.RowKit Go.Maps

set_option maxRecDepth 100000 in
set_option maxHeartbeats 1600000 in
theorem cloneInts_zero (c : Nat) (A : Option Addr) (w : World) :
    Calls Tryz.prog 99 #[.slice A 0 c] w fun e w' => ∃ A' c', e = .returned (.slice A' 0 c') ∧ Below w.heap.size w w' := by
  have B := Lib.hid (below_alloc w (.cells #[] 2))
  rcases A with _ | A
  · have heq := fun w => Lib.run_eql_slice_nil (P := Tryz.prog) w 23 2 none 0 c 0 0 Tryz.underlying23
    simp only [Option.isNone_none] at heq
    go_enter Tryz.func99, Tryz.ntmps99
    go_wp2
    go_ret
    exact ⟨none, 0, by simp, Below.refl _ _⟩
  · have heq := fun w => Lib.run_eql_slice_nil (P := Tryz.prog) w 23 2 (some A) 0 c 0 0 Tryz.underlying23
    simp only [Option.isNone_some] at heq
    go_enter Tryz.func99, Tryz.ntmps99
    go_wp2
    go_ret
    exact ⟨_, _, by simp; exact ⟨rfl, rfl⟩, B.out⟩

/-- A place that is watched by xs, wherever that stands. -/
def LV.seenA (p q : LV) (xs : List Int) : Prop := ∃ A n c, q = { p with wA := A, wn := n, wc := c, ws := xs }
theorem LV.seen.any {p q : LV} {xs : List Int} (h : p.seen q xs) : p.seenA q xs := by
  obtain ⟨g5, n1, cap, e⟩ := h
  exact ⟨_, _, _, e⟩
theorem Watched.putA {qs : List LV} {f : Int → Option Nat} {us : List RVal} {j : Nat} {q r : LV} {ws : List Int} (h : Watched qs f us) (hq : qs[j]? = some q) (hr : q.seenA r ws) (hn : (us.map (·.1)).contains (j : Int) = false) : Watched (qs.set j r) (fun x => if x = (j : Int) then some q.g else f x) (us ++ [((j : Int), ws)]) := by
  obtain ⟨A, n1, cap, rfl⟩ := hr
  have hjl := (List.getElem?_eq_some_iff.1 hq).1
  intro i u hu
  rcases Nat.lt_or_ge i us.length with hi | hi
  · rw [List.getElem?_append_left hi] at hu
    obtain ⟨j', q', e1, e2, e3, e4⟩ := h i u hu
    have hne : u.1 ≠ (j : Int) := by
      intro e
      have : (us.map (·.1)).contains (j : Int) = true := by
        rw [List.contains_iff_mem]; exact List.mem_map.2 ⟨u, List.mem_of_getElem? hu, e⟩
      rw [hn] at this; exact absurd this (by decide)
    refine ⟨j', q', e1, ?_, by simp only [if_neg hne]; exact e3, e4⟩
    rw [List.getElem?_set, if_neg (by rintro rfl; exact hne e1)]; exact e2
  · rw [List.getElem?_append_right hi] at hu
    have hi0 : i - us.length = 0 := by have := (List.getElem?_eq_some_iff.1 hu).1; simp at this; omega
    rw [hi0] at hu
    simp only [List.getElem?_cons_zero, Option.some.injEq] at hu
    subst hu
    exact ⟨j, _, rfl, by rw [List.getElem?_set, if_pos rfl, if_pos hjl], by simp, rfl⟩
/-- Nobody watches: that is written into a place. -/
theorem Ret.watch0 {w W1 : World} {lo G M pb cp n km k j c0 : Nat} {d : Int} {o : Value} {ps : List LV} {ids : List Int} {f : Int → Option Nat} {p : LV} {A0 : Option Addr} (h : Ret w lo G M d o pb cp n ps km k ids f) (hb : Below w.heap.size w W1) (hi : ps[j]? = some p) :
    Ret (W1.setCell ⟨p.g, 2, none⟩ (.slice A0 0 c0)) lo G M d o pb cp n (ps.set j { p with wA := A0, wn := 0, wc := c0, ws := [] }) km k ids f := by
  have h1 := h.kept hb
  have hp := h1.G'.P.P p (List.mem_of_getElem? hi)
  have hs5 : W1.heap.size ≤ (W1.setCell ⟨p.g, 2, none⟩ (.slice A0 0 c0)).heap.size := Nat.le_of_eq (size_of_setCell _ _ _).symm
  have hk5 : ∀ b, b < W1.heap.size → b ≠ p.g → (W1.setCell ⟨p.g, 2, none⟩ (.slice A0 0 c0)).heap[b]? = W1.heap[b]? := fun b _ hne => heap_setCell_other W1 ⟨p.g, 2, none⟩ b _ hne
  have rowp : ∀ b, LV.row { p with wA := A0, wn := 0, wc := c0, ws := [] } b → p.row b := by
    rintro b (⟨a1, a2⟩ | ⟨a1, a2⟩)
    · exact Or.inl ⟨a1, a2⟩
    · exact absurd a1 (Nat.lt_irrefl 0)
  refine h1.place hi rfl hs5 hk5 ?_ (fun b hb' => Or.inl (rowp b hb'))
  exact ⟨hp.L.set 2 _, hp.S.block hp.F hs5 (fun b h0 e => hk5 b (Fresh.in_slots hp.S h0 e) (fun e' => hp.Y (Or.inl ⟨h0, e' ▸ e⟩))), hp.O, hp.N, ⟨rfl, fun h => absurd h (Nat.lt_irrefl 0)⟩, hp.g, hp.F, fun h => absurd h (Nat.lt_irrefl 0), fun hy => hp.Y (rowp _ hy)⟩

set_option maxRecDepth 100000 in
set_option maxHeartbeats 3200000 in
theorem retire0_any (d : Int) (lo B0 G M pb cp n km k j c1 : Nat) (o : Value) (X1 : Option Addr) (ps : List LV) (p : LV) (ids : List Int) (f : Int → Option Nat) (w : World) (h : Ret w lo G M d o pb cp n ps km k ids f) (hj : ps[j]? = some p) (hlo : lo ≤ w.heap.size) (hkm : km ≤ 1048576) (hk : k ≤ 1048576) (hn : n ≤ 40) (hB1 : B0 ≤ G) (hB2 : B0 ≤ M) (hBlo : B0 ≤ lo) :
    Calls Tryz.prog 64 #[.pointer (some ⟨G, 0, none⟩), .int .i64 (j : Int), .slice X1 0 c1] w fun e w' => e = .returned noResult ∧ Below B0 w w' ∧ ∃ o' q, Ret w' lo G M d o' pb cp n (ps.set j q) (km + 1) (k + 1) (ids ++ [(j : Int)]) (fun x => if x = (j : Int) then some p.g else f x) ∧ p.seenA q [] := by
  have H := Lib.hid h
  have HJ := Lib.hid hj
  have hjn : j < n := by have := (List.getElem?_eq_some_iff.1 hj).1; rw [h.G'.R.l] at this; exact this
  have hjn' : (j : Int) < (n : Int) := by omega
  have HP := Lib.hid (h.G'.P.P p (List.mem_of_getElem? hj))
  have hpg := HP.out.g
  have HW : Hid ((Lit.int .i64 (j : Int)).wf = true) := WalkArith.wf_i64 (by omega)
  obtain ⟨i0, hi0, hz0, hz1, hz2⟩ := info_parts_i64
  have IP := Lib.hid (And.intro hi0 (And.intro hz0 (And.intro hz1 hz2)))
  have g1 : w.cell? ⟨G, 1, none⟩ = some (.slice (some ⟨pb, 0, none⟩) n cp) := h.G'.L.cell 1
  have g2 : w.cell? ⟨pb, j, none⟩ = some (.pointer (some ⟨p.g, 0, none⟩)) := h.G'.R.c j p hj
  clear h hj hi0 hz0 hz1 hz2
  go_enter Tryz.func64, Tryz.ntmps64
  go_wp2_with fail
  refine (cloneInts_zero _ _ _).mono ?_
  rintro e W1 ⟨A0, c0, rfl, b1⟩
  have H2 := Lib.hid (H.out.watch0 (A0 := A0) (c0 := c0) b1 HJ.out)
  have HP1 := Lib.hid (HP.out.kept b1)
  have BB : Hid (Below B0 w (W1.setCell ⟨p.g, 2, none⟩ (.slice A0 0 c0))) := (b1.mono (by omega)).setCell (by show B0 ≤ p.g; omega) _
  have s2 : W1.cell? ⟨p.g, 2, none⟩ = some (.slice p.wA p.wn p.wc) := HP1.out.L.cell 2
  have f2 : W1.frozen? ⟨p.g, 2, none⟩ = false := HP1.out.L.thawed 2
  have g3 : (W1.setCell ⟨p.g, 2, none⟩ (.slice A0 0 c0)).cell? ⟨G, 2, none⟩ = some (.map (some M)) := H2.out.G'.L.cell 2
  clear b1 g1 g2 HP HP1
  go_wp2_with (at_mapUpdate; refine wpList_pmap _ rfl (.tmp 22) (.tmp 23) (.tmp 24) rfl M km f rfl H2.out.M' (by unfold maxLen; omega) (j : Int) rfl HW.out p.g rfl ?_)
  intro W3 hM3 hg3
  have H3 := Lib.hid (H2.out.mapped hM3 hg3)
  have B3 : Hid (Below B0 w W3) := below_grown2 BB.out hg3 (fun r e => by injection e with e; omega) (by have := BB.out.size; omega)
  clear hM3 hg3 H2 BB g3 s2 f2
  have g3 : W3.cell? ⟨G, 3, none⟩ = some o := H3.out.G'.L.cell 3
  have hGW : G < W3.heap.size := H3.out.G'.L.inside
  have bA := Lib.hid (below_alloc W3 (.cells #[.int .i64 (j : Int)] 2))
  have HS3 := Lib.hid (ownsRow_below H3.out.S bA.out)
  have hloW : lo ≤ W3.heap.size := by have := H3.out.G'.R.i; omega
  have NEWS : Hid (∀ i u, ([.int .i64 (j : Int)] : List Value)[i]? = some u → (W3.alloc (.cells #[.int .i64 (j : Int)] 2)).cell? ((⟨W3.heap.size, 0, none⟩ : Addr).add i) = some u) := World.news_of_block (cs := #[.int .i64 (j : Int)]) (t := 2) (fr := (0, 0)) (Lies.new W3 2 #[.int .i64 (j : Int)])
  go_wp2_with (with_reducible refine wpList_append_lies _ rfl (.tmp 29) (.tmp 31) 23 rfl lo 2 i0 (.int .i64 0) 1 8 Tryz.underlying23 IP.out.1 IP.out.2.1 IP.out.2.2.1 IP.out.2.2.2 rfl (by omega) o k (ids.map (Value.int .i64)) rfl HS3.out ⟨W3.heap.size, 0, none⟩ 1 1 [.int .i64 (j : Int)] rfl rfl NEWS.out ?q2 (by omega) ?q3 ?q4 ?q5 (W3.heap.size + 1) ?q6 ?_)
  case q2 => simp [Value.oneCell']
  case q3 => unfold maxLen; omega
  case q4 => omega
  case q5 => simp only [World.size_alloc]; omega
  case q6 => simp only [World.size_alloc]
  intro gg cap2 w1 ho hw hat hlt1
  have hbk := ownsRow_block2 HS3.out
  have H4 := Lib.hid (H3.out.ordered (cap := cap2) bA.out ho hw (by simpa only [World.size_alloc] using hat))
  have LG := Lib.hid ((hw.block G (H3.out.kept bA.out).G'.L.inside (fun e => by have := (hbk G e.symm).1; have := H3.out.G'.g; omega)).trans (H3.out.kept bA.out).G'.L)
  have s3 : w1.cell? ⟨G, 3, none⟩ = some o := Lies.cell LG.out 3
  have f3 : w1.frozen? ⟨G, 3, none⟩ = false := Lies.thawed LG.out 3
  have B4 : Hid (Below B0 w (w1.setCell ⟨G, 3, none⟩ (.slice (some ⟨gg, 0, none⟩) (k + 1) cap2))) := by
    refine Below.setCell (below_grown2 (B3.out.alloc (by have := B3.out.size; omega) _) hw (fun r e => by have := (hbk r e).1; omega) ?_) hB1 _
    have := B3.out.size; simp only [World.size_alloc]; omega
  clear ho hw hat hlt1 hbk HS3 H3 B3 g3 bA NEWS LG
  go_wp2
  go_end0
  exact ⟨rfl, B4.out, _, _, H4.out, A0, 0, c0, rfl⟩

/-- A place is retired, whoever watches it. -/
theorem retireA_any (d : Int) (lo B0 G M pb cp n km k j n1 c1 : Nat) (o : Value) (X1 : Option Addr) (xs : List Int) (ps : List LV) (p : LV) (ids : List Int) (f : Int → Option Nat) (w : World) (h : Ret w lo G M d o pb cp n ps km k ids f) (hj : ps[j]? = some p) (hI : Ints w 0 X1 n1 xs) (hn1 : n1 ≤ 4) (hlo : lo ≤ w.heap.size) (hkm : km ≤ 1048576) (hk : k ≤ 1048576) (hn : n ≤ 40) (hB1 : B0 ≤ G) (hB2 : B0 ≤ M) (hBlo : B0 ≤ lo) :
    Calls Tryz.prog 64 #[.pointer (some ⟨G, 0, none⟩), .int .i64 (j : Int), .slice X1 n1 c1] w fun e w' => e = .returned noResult ∧ Below B0 w w' ∧ ∃ o' q, Ret w' lo G M d o' pb cp n (ps.set j q) (km + 1) (k + 1) (ids ++ [(j : Int)]) (fun x => if x = (j : Int) then some p.g else f x) ∧ p.seenA q xs := by
  rcases Nat.eq_zero_or_pos n1 with rfl | h0
  · obtain rfl : xs = [] := List.eq_nil_of_length_eq_zero hI.1
    exact retire0_any d lo B0 G M pb cp n km k j c1 o X1 ps p ids f w h hj hlo hkm hk hn hB1 hB2 hBlo
  · refine (retire_any d lo B0 G M pb cp n km k j n1 c1 o X1 xs ps p ids f w h hj hI h0 hn1 hlo hkm hk hn hB1 hB2 hBlo).mono ?_
    rintro e w' ⟨h1, h2, o', q, h3, h4⟩
    exact ⟨h1, h2, o', q, h3, h4.any⟩

set_option maxRecDepth 100000 in
set_option maxHeartbeats 12800000 in
theorem implRetireNode_any (d id : Int) (n1 c1 n2 c2 n3 c3 nw cw : Nat) (A1 A2 A3 Aw : Option Addr) (ns : List NV) (fs : List Int) (rs : List RV) (ws : List Int) (w : World) (hp : ArenaL w A1 A2 A3 n1 n2 n3 ns fs rs) (hfew : n1 + n2 + n3 ≤ 1048576) (hw : Ints w 0 Aw nw ws) (hnw : nw ≤ maxLen) (hidw : (Lit.int .i64 id).wf = true) :
    Calls Tryz.prog 23 #[.agg #[.int .i64 d, .slice A1 n1 c1, .slice A2 n2 c2, .slice A3 n3 c3], .int .i64 id, .slice Aw nw cw] w (ImPost (retireR d (ns.map NV.val) fs (rs.map RV.val) id ws) w) := by
  have HP := Lib.hid hp
  have HW := Lib.hid hw
  have HIW := Lib.hid hidw
  have HL : Hid ((ns.map NV.val).length = n1) := by show List.length _ = n1; rw [List.length_map]; exact hp.N.1
  have HL3 : Hid ((rs.map RV.val).length = n3) := by show List.length _ = n3; rw [List.length_map]; exact hp.R.1
  have HLW : Hid (ws.length = nw) := hw.1
  clear hp hw hidw
  have B := Lib.hid (below_alloc w (.cells #[.int .i64 d, .slice A1 n1 c1, .slice A2 n2 c2, .slice A3 n3 c3] 26))
  have L_r := Lib.hid (Lies.new (w.alloc (.cells #[.int .i64 d, .slice A1 n1 c1, .slice A2 n2 c2, .slice A3 n3 c3] 26)) 53 #[.int .i64 0, .int .i64 0, .slice none 0 0, .slice none 0 0, .slice none 0 0, .int .i64 0])
  replace B := Lib.hid (B.out.alloc B.out.size (.cells #[.int .i64 0, .int .i64 0, .slice none 0 0, .slice none 0 0, .slice none 0 0, .int .i64 0] 53))
  have L_a := Lib.hid ((Lies.new w 26 #[.int .i64 d, .slice A1 n1 c1, .slice A2 n2 c2, .slice A3 n3 c3]).alloc (.cells #[.int .i64 0, .int .i64 0, .slice none 0 0, .slice none 0 0, .slice none 0 0, .int .i64 0] 53))
  simp only [World.size_alloc] at L_r
  have hX0 : ((w.alloc (.cells #[.int .i64 d, .slice A1 n1 c1, .slice A2 n2 c2, .slice A3 n3 c3] 26)).alloc (.cells #[.int .i64 0, .int .i64 0, .slice none 0 0, .slice none 0 0, .slice none 0 0, .int .i64 0] 53)).heap.size = w.heap.size + 1 + 1 := by simp only [World.size_alloc]
  generalize hWX : (w.alloc (.cells #[.int .i64 d, .slice A1 n1 c1, .slice A2 n2 c2, .slice A3 n3 c3] 26)).alloc (.cells #[.int .i64 0, .int .i64 0, .slice none 0 0, .slice none 0 0, .slice none 0 0, .int .i64 0] 53) = WX at L_r B L_a hX0
  go_enter Tryz.func23, Tryz.ntmps23
  have a0 : WX.cell? ⟨w.heap.size, 0, none⟩ = some (.int .i64 d) := L_a.out.cell 0
  have a1 : WX.cell? ⟨w.heap.size, 1, none⟩ = some (.slice A1 n1 c1) := L_a.out.cell 1
  have a2 : WX.cell? ⟨w.heap.size, 2, none⟩ = some (.slice A2 n2 c2) := L_a.out.cell 2
  have a3 : WX.cell? ⟨w.heap.size, 3, none⟩ = some (.slice A3 n3 c3) := L_a.out.cell 3
  subst hWX
  go_wp2_with fail
  refine (openArena_any d n1 c1 n2 c2 n3 c3 A1 A2 A3 ns fs rs _ (HP.out.kept B.out) (by omega)).mono ?_
  rintro e W1 ⟨b1, h⟩
  have sW1 := b1.size
  rw [hX0] at sW1
  replace L_r := Lib.hid (L_r.out.kept b1 L_r.out.inside)
  replace B := Lib.hid (B.out.trans (b1.mono B.out.size))
  clear b1 a0 a1 a2 a3 L_a
  rcases h with ⟨hz, rfl⟩ | ⟨hz, G, rfl, hO⟩
  · have hz1 : (arenaF d (ns.map NV.val) fs (rs.map RV.val) != 0) = true := by simpa using hz
    have HR := Lib.hid (retireR_arena (id := id) (ws := ws) hz)
    clear hz
    have z0 : W1.cell? ⟨w.heap.size + 1, 0, none⟩ = some (.int .i64 0) := L_r.out.cell 0
    have y0 : W1.frozen? ⟨w.heap.size + 1, 0, none⟩ = false := L_r.out.thawed 0
    have z1 : W1.cell? ⟨w.heap.size + 1, 1, none⟩ = some (.int .i64 0) := L_r.out.cell 1
    have y1 : W1.frozen? ⟨w.heap.size + 1, 1, none⟩ = false := L_r.out.thawed 1
    have z2 : W1.cell? ⟨w.heap.size + 1, 2, none⟩ = some (.slice none 0 0) := L_r.out.cell 2
    have y2 : W1.frozen? ⟨w.heap.size + 1, 2, none⟩ = false := L_r.out.thawed 2
    have z3 : W1.cell? ⟨w.heap.size + 1, 3, none⟩ = some (.slice none 0 0) := L_r.out.cell 3
    have y3 : W1.frozen? ⟨w.heap.size + 1, 3, none⟩ = false := L_r.out.thawed 3
    have z4 : W1.cell? ⟨w.heap.size + 1, 4, none⟩ = some (.slice none 0 0) := L_r.out.cell 4
    have y4 : W1.frozen? ⟨w.heap.size + 1, 4, none⟩ = false := L_r.out.thawed 4
    have z5 : W1.cell? ⟨w.heap.size + 1, 5, none⟩ = some (.int .i64 0) := L_r.out.cell 5
    have y5 : W1.frozen? ⟨w.heap.size + 1, 5, none⟩ = false := L_r.out.thawed 5
    go_wp2
    refine bodyPost_ret (v := .agg #[.int .i64 (arenaF d (ns.map NV.val) fs (rs.map RV.val)), .int .i64 0, .slice none 0 0, .slice none 0 0, .slice none 0 0, .int .i64 0]) (by simp [results, Tryz.results23, go_sem, z0, z1, z2, z3, z4, z5]) rfl ?_
    with_reducible refine ImPost.no HR.out ?_
    with_reducible (repeat (first | exact B.out | refine Below.setCell ?_ ?_ _))
    all_goals (show w.heap.size ≤ w.heap.size + 1; omega)
  obtain ⟨lo, M, o, pb, cp, qs, f, hRet, hvals, hfr, hG0, hM0, hlo1, hWa, hwlo, hDm⟩ := hO
  rw [hX0] at hG0 hM0 hwlo
  obtain ⟨hdd, hnn, _, hff, _, htk⟩ := arenaF_zero hz
  have hn40 : n1 ≤ 40 := by rw [HL.out] at hnn; exact hnn.2
  have hn14 : 4 ≤ n1 := by rw [HL.out] at hnn; exact hnn.1
  have hlenq : qs.length = n1 := hRet.G'.R.l
  have HZ := Lib.hid hz
  have HRT := Lib.hid hRet
  have HWA := Lib.hid hWa
  have HVL := Lib.hid hvals
  have HFRQ := Lib.hid hfr
  have HTK := Lib.hid htk
  have HFF := Lib.hid hff
  have HAW := Lib.hid (arenaF_watched hz)
  have HDM := Lib.hid hDm
  clear hz hRet hvals hfr hWa hnn htk hff hDm
  have k1 : W1.cell? ⟨G, 1, none⟩ = some (.slice (some ⟨pb, 0, none⟩) n1 cp) := HRT.out.G'.L.cell 1
  have hGi := HRT.out.G'.L.inside
  by_cases hin : 0 ≤ id ∧ id ≤ (n1 : Int) - 1
  rotate_left
  · have HR : Hid (retireR d (ns.map NV.val) fs (rs.map RV.val) id ws = arNo 3) := by
      show _ = _
      have e : readF (ns.map NV.val).length fs id = 3 := readF_out (by rw [HL.out]; exact hin)
      have h1 := retireR_read (ws := ws) HZ.out (by rw [e]; decide)
      rw [e] at h1; exact h1
    go_wp2_with fail
    refine (at_out G pb cp n1 id _ k1 hGi hn40 hin).mono ?_
    rintro e W2 ⟨rfl, b2⟩
    replace L_r := Lib.hid (L_r.out.kept b2 L_r.out.inside)
    replace B := Lib.hid (B.out.trans (b2.mono B.out.size))
    clear b2 k1 hin
    have z0 : W2.cell? ⟨w.heap.size + 1, 0, none⟩ = some (.int .i64 0) := L_r.out.cell 0
    have y0 : W2.frozen? ⟨w.heap.size + 1, 0, none⟩ = false := L_r.out.thawed 0
    have z1 : W2.cell? ⟨w.heap.size + 1, 1, none⟩ = some (.int .i64 0) := L_r.out.cell 1
    have y1 : W2.frozen? ⟨w.heap.size + 1, 1, none⟩ = false := L_r.out.thawed 1
    have z2 : W2.cell? ⟨w.heap.size + 1, 2, none⟩ = some (.slice none 0 0) := L_r.out.cell 2
    have y2 : W2.frozen? ⟨w.heap.size + 1, 2, none⟩ = false := L_r.out.thawed 2
    have z3 : W2.cell? ⟨w.heap.size + 1, 3, none⟩ = some (.slice none 0 0) := L_r.out.cell 3
    have y3 : W2.frozen? ⟨w.heap.size + 1, 3, none⟩ = false := L_r.out.thawed 3
    have z4 : W2.cell? ⟨w.heap.size + 1, 4, none⟩ = some (.slice none 0 0) := L_r.out.cell 4
    have y4 : W2.frozen? ⟨w.heap.size + 1, 4, none⟩ = false := L_r.out.thawed 4
    have z5 : W2.cell? ⟨w.heap.size + 1, 5, none⟩ = some (.int .i64 0) := L_r.out.cell 5
    have y5 : W2.frozen? ⟨w.heap.size + 1, 5, none⟩ = false := L_r.out.thawed 5
    go_wp2
    refine bodyPost_ret (v := .agg #[.int .i64 (3), .int .i64 0, .slice none 0 0, .slice none 0 0, .slice none 0 0, .int .i64 0]) (by simp [results, Tryz.results23, go_sem, z0, z1, z2, z3, z4, z5]) rfl ?_
    with_reducible refine ImPost.no HR.out ?_
    with_reducible (repeat (first | exact B.out | refine Below.setCell ?_ ?_ _))
    all_goals (show w.heap.size ≤ w.heap.size + 1; omega)
  obtain ⟨k, rfl⟩ := Int.eq_ofNat_of_zero_le hin.1
  have hkn : k < n1 := by omega
  obtain ⟨q, hq⟩ : ∃ q, qs[k]? = some q := ⟨_, List.getElem?_eq_getElem (by omega)⟩
  have hpb := HRT.out.G'.R.i.2
  have j0 := HRT.out.G'.R.c k q hq
  have hok := HRT.out.G'.P.P q (List.mem_of_getElem? hq)
  have hqg : q.g < W1.heap.size := hok.L.inside
  have l1 : W1.cell? ⟨q.g, 1, none⟩ = some (.bool q.fr) := hok.L.cell 1
  have hfq := HFRQ.out k q hq
  clear hok hin
  cases hfe : q.fr
  rotate_left
  · have HR : Hid (retireR d (ns.map NV.val) fs (rs.map RV.val) (k : Int) ws = arNo 4) := by
      show _ = _
      have e : readF (ns.map NV.val).length fs (k : Int) = 4 := by rw [readF_in (by rw [HL.out]; omega), ← hfq, hfe]; rfl
      have h1 := retireR_read (ws := ws) HZ.out (by rw [e]; decide)
      rw [e] at h1; exact h1
    rw [hfe] at l1
    clear hfe hfq
    go_wp2_with fail
    refine (at_in G pb cp n1 q.g true k _ k1 hGi hn40 hkn hpb j0 hqg l1).mono ?_
    rintro e W2 ⟨rfl, b2⟩
    replace L_r := Lib.hid (L_r.out.kept b2 L_r.out.inside)
    replace B := Lib.hid (B.out.trans (b2.mono B.out.size))
    clear b2 k1 j0 l1
    have z0 : W2.cell? ⟨w.heap.size + 1, 0, none⟩ = some (.int .i64 0) := L_r.out.cell 0
    have y0 : W2.frozen? ⟨w.heap.size + 1, 0, none⟩ = false := L_r.out.thawed 0
    have z1 : W2.cell? ⟨w.heap.size + 1, 1, none⟩ = some (.int .i64 0) := L_r.out.cell 1
    have y1 : W2.frozen? ⟨w.heap.size + 1, 1, none⟩ = false := L_r.out.thawed 1
    have z2 : W2.cell? ⟨w.heap.size + 1, 2, none⟩ = some (.slice none 0 0) := L_r.out.cell 2
    have y2 : W2.frozen? ⟨w.heap.size + 1, 2, none⟩ = false := L_r.out.thawed 2
    have z3 : W2.cell? ⟨w.heap.size + 1, 3, none⟩ = some (.slice none 0 0) := L_r.out.cell 3
    have y3 : W2.frozen? ⟨w.heap.size + 1, 3, none⟩ = false := L_r.out.thawed 3
    have z4 : W2.cell? ⟨w.heap.size + 1, 4, none⟩ = some (.slice none 0 0) := L_r.out.cell 4
    have y4 : W2.frozen? ⟨w.heap.size + 1, 4, none⟩ = false := L_r.out.thawed 4
    have z5 : W2.cell? ⟨w.heap.size + 1, 5, none⟩ = some (.int .i64 0) := L_r.out.cell 5
    have y5 : W2.frozen? ⟨w.heap.size + 1, 5, none⟩ = false := L_r.out.thawed 5
    go_wp2
    refine bodyPost_ret (v := .agg #[.int .i64 (4), .int .i64 0, .slice none 0 0, .slice none 0 0, .slice none 0 0, .int .i64 0]) (by simp [results, Tryz.results23, go_sem, z0, z1, z2, z3, z4, z5]) rfl ?_
    with_reducible refine ImPost.no HR.out ?_
    with_reducible (repeat (first | exact B.out | refine Below.setCell ?_ ?_ _))
    all_goals (show w.heap.size ≤ w.heap.size + 1; omega)
  have HRD : Hid (readF (ns.map NV.val).length fs (k : Int) = 0) := by show _ = _; rw [readF_in (by rw [HL.out]; omega), ← hfq, hfe]; rfl
  rw [hfe] at l1 hfq
  have HQ := Lib.hid hq
  have HFE := Lib.hid hfq
  clear hfe hfq hq
  go_wp2_with fail
  refine (at_in G pb cp n1 q.g false k _ k1 hGi hn40 hkn hpb j0 hqg l1).mono ?_
  rintro e W2 ⟨rfl, b2⟩
  replace L_r := Lib.hid (L_r.out.kept b2 L_r.out.inside)
  replace B := Lib.hid (B.out.trans (b2.mono B.out.size))
  replace HRT := Lib.hid (HRT.out.kept b2)
  have sW2 := b2.size
  clear b2 k1 j0 l1 hqg hpb hGi
  have k2 : W2.cell? ⟨G, 2, none⟩ = some (.map (some M)) := HRT.out.G'.L.cell 2
  cases htk : ((rs.map RV.val).map (·.1)).contains (k : Int)
  rotate_left
  · have HR : Hid (retireR d (ns.map NV.val) fs (rs.map RV.val) (k : Int) ws = arNo 6) := retireR_taken HZ.out HRD.out htk
    have HFS : Hid ((f (k : Int)).isSome = true) := by
      show _ = _
      rw [List.contains_iff_mem] at htk
      obtain ⟨u, hu, hu1⟩ := List.mem_map.1 htk
      obtain ⟨i, hi⟩ := List.getElem?_of_mem hu
      obtain ⟨_, p, _, _, e3, _⟩ := HWA.out i u hi
      rw [hu1] at e3; rw [e3]; rfl
    clear htk
    go_wp2_with fail
    refine (isRetired_any G M n3 (k : Int) f _ k2 HRT.out.M' HIW.out).mono ?_
    rintro e w' ⟨rfl, rfl⟩
    rw [HFS.out]
    clear k2
    have z0 : W2.cell? ⟨w.heap.size + 1, 0, none⟩ = some (.int .i64 0) := L_r.out.cell 0
    have y0 : W2.frozen? ⟨w.heap.size + 1, 0, none⟩ = false := L_r.out.thawed 0
    have z1 : W2.cell? ⟨w.heap.size + 1, 1, none⟩ = some (.int .i64 0) := L_r.out.cell 1
    have y1 : W2.frozen? ⟨w.heap.size + 1, 1, none⟩ = false := L_r.out.thawed 1
    have z2 : W2.cell? ⟨w.heap.size + 1, 2, none⟩ = some (.slice none 0 0) := L_r.out.cell 2
    have y2 : W2.frozen? ⟨w.heap.size + 1, 2, none⟩ = false := L_r.out.thawed 2
    have z3 : W2.cell? ⟨w.heap.size + 1, 3, none⟩ = some (.slice none 0 0) := L_r.out.cell 3
    have y3 : W2.frozen? ⟨w.heap.size + 1, 3, none⟩ = false := L_r.out.thawed 3
    have z4 : W2.cell? ⟨w.heap.size + 1, 4, none⟩ = some (.slice none 0 0) := L_r.out.cell 4
    have y4 : W2.frozen? ⟨w.heap.size + 1, 4, none⟩ = false := L_r.out.thawed 4
    have z5 : W2.cell? ⟨w.heap.size + 1, 5, none⟩ = some (.int .i64 0) := L_r.out.cell 5
    have y5 : W2.frozen? ⟨w.heap.size + 1, 5, none⟩ = false := L_r.out.thawed 5
    go_wp2
    refine bodyPost_ret (v := .agg #[.int .i64 (6), .int .i64 0, .slice none 0 0, .slice none 0 0, .slice none 0 0, .int .i64 0]) (by simp [results, Tryz.results23, go_sem, z0, z1, z2, z3, z4, z5]) rfl ?_
    with_reducible refine ImPost.no HR.out ?_
    with_reducible (repeat (first | exact B.out | refine Below.setCell ?_ ?_ _))
    all_goals (show w.heap.size ≤ w.heap.size + 1; omega)
  have HFS : Hid ((f (k : Int)).isSome = false) := by
    show _ = _
    rw [HDM.out (k : Int)]; exact htk
  have HNT := Lib.hid htk
  clear htk
  go_wp2_with fail
  refine (isRetired_any G M n3 (k : Int) f _ k2 HRT.out.M' HIW.out).mono ?_
  rintro e w' ⟨rfl, rfl⟩
  rw [HFS.out]
  clear k2
  go_wp2_with fail
  refine (watchFault_any nw cw 0 Aw ws _ (HW.out.kept B.out) hnw).mono ?_
  rintro e W3 ⟨rfl, b3⟩
  replace L_r := Lib.hid (L_r.out.kept b3 L_r.out.inside)
  replace B := Lib.hid (B.out.trans (b3.mono B.out.size))
  replace HRT := Lib.hid (HRT.out.kept b3)
  have sW3 := b3.size
  clear b3
  by_cases hzw : watchF ws = 0
  rotate_left
  · have hz5 : (watchF ws != 0) = true := by simpa using hzw
    have HR : Hid (retireR d (ns.map NV.val) fs (rs.map RV.val) (k : Int) ws = arNo (watchF ws)) := retireR_watch HZ.out HRD.out HNT.out hzw
    clear hzw
    have z0 : W3.cell? ⟨w.heap.size + 1, 0, none⟩ = some (.int .i64 0) := L_r.out.cell 0
    have y0 : W3.frozen? ⟨w.heap.size + 1, 0, none⟩ = false := L_r.out.thawed 0
    have z1 : W3.cell? ⟨w.heap.size + 1, 1, none⟩ = some (.int .i64 0) := L_r.out.cell 1
    have y1 : W3.frozen? ⟨w.heap.size + 1, 1, none⟩ = false := L_r.out.thawed 1
    have z2 : W3.cell? ⟨w.heap.size + 1, 2, none⟩ = some (.slice none 0 0) := L_r.out.cell 2
    have y2 : W3.frozen? ⟨w.heap.size + 1, 2, none⟩ = false := L_r.out.thawed 2
    have z3 : W3.cell? ⟨w.heap.size + 1, 3, none⟩ = some (.slice none 0 0) := L_r.out.cell 3
    have y3 : W3.frozen? ⟨w.heap.size + 1, 3, none⟩ = false := L_r.out.thawed 3
    have z4 : W3.cell? ⟨w.heap.size + 1, 4, none⟩ = some (.slice none 0 0) := L_r.out.cell 4
    have y4 : W3.frozen? ⟨w.heap.size + 1, 4, none⟩ = false := L_r.out.thawed 4
    have z5 : W3.cell? ⟨w.heap.size + 1, 5, none⟩ = some (.int .i64 0) := L_r.out.cell 5
    have y5 : W3.frozen? ⟨w.heap.size + 1, 5, none⟩ = false := L_r.out.thawed 5
    go_wp2
    refine bodyPost_ret (v := .agg #[.int .i64 (watchF ws), .int .i64 0, .slice none 0 0, .slice none 0 0, .slice none 0 0, .int .i64 0]) (by simp [results, Tryz.results23, go_sem, z0, z1, z2, z3, z4, z5]) rfl ?_
    with_reducible refine ImPost.no HR.out ?_
    with_reducible (repeat (first | exact B.out | refine Below.setCell ?_ ?_ _))
    all_goals (show w.heap.size ≤ w.heap.size + 1; omega)
  have hz5 : (watchF ws != 0) = false := by simp [hzw]
  have HR := Lib.hid (retireR_yes HZ.out HRD.out HNT.out hzw)
  have hw4 : nw ≤ 4 := by
    rcases Nat.lt_or_ge 4 ws.length with h5 | h5
    · rw [watchF_many h5] at hzw; omega
    · rw [HLW.out] at h5; exact h5
  clear hzw
  have hWp := HRT.out.G'.P.P q (List.mem_of_getElem? HQ.out)
  go_wp2_with fail
  refine (retireA_any d lo (w.heap.size + 1 + 1) G M pb cp n1 n3 n3 k nw cw o Aw ws qs q _ f _ HRT.out HQ.out (HW.out.kept B.out) hw4 (by omega) (by omega) (by omega) hn40 (by omega) (by omega) (by omega)).mono ?_
  rintro e W4 ⟨rfl, b4, o4, r, hR4, hsn⟩
  have sW4 := b4.size
  have hri := L_r.out.inside
  replace L_r := Lib.hid (show Lies W4 (w.heap.size + 1) 53 #[.int .i64 0, .int .i64 0, .slice none 0 0, .slice none 0 0, .slice none 0 0, .int .i64 0] from (b4.block (w.heap.size + 1) (by omega)).trans L_r.out)
  replace B := Lib.hid (B.out.trans (b4.mono (by omega)))
  have HW4 : Hid (Watched (qs.set k r) (fun x => if x = (k : Int) then some q.g else f x) (rs.map RV.val ++ [((k : Int), ws)])) := HWA.out.putA HQ.out hsn HNT.out
  have HD4 : Hid (diffL (rs.map RV.val ++ [((k : Int), ws)])) := diffL_snoc (takenF_diff HTK.out) (fun u hu e => by
    have h1 : ((rs.map RV.val).map (·.1)).contains (k : Int) = true := by rw [List.contains_iff_mem]; exact List.mem_map.2 ⟨u, hu, e⟩
    rw [HNT.out] at h1; cases h1)
  have HF4 : Hid (∀ (i : Nat) (p : LV), (qs.set k r)[i]? = some p → p.fr = fs.contains (i : Int)) := by
    obtain ⟨_, _, _, er⟩ := hsn
    intro i p hp
    rw [List.getElem?_set] at hp
    by_cases e : k = i
    · subst e
      rw [if_pos rfl] at hp
      split at hp
      · injection hp with hp; subst hp; rw [er]; exact HFRQ.out k q HQ.out
      · cases hp
    · rw [if_neg e] at hp; exact HFRQ.out i p hp
  have HV4 : Hid ((qs.set k r).map LV.val = ns.map NV.val) := by
    obtain ⟨_, _, _, er⟩ := hsn
    show _ = _
    rw [← HVL.out]
    apply List.ext_getElem?
    intro i
    rw [List.getElem?_map, List.getElem?_map, List.getElem?_set]
    by_cases e : k = i
    · subst e
      rw [if_pos rfl, if_pos (by omega), HQ.out, er]; rfl
    · rw [if_neg e]
  have HR4 : Hid (Ret W4 lo G M d o4 pb cp n1 (qs.set k r) (n3 + 1) (n3 + 1) ((rs.map RV.val ++ [((k : Int), ws)]).map (·.1)) (fun x => if x = (k : Int) then some q.g else f x)) := by show Ret _ _ _ _ _ _ _ _ _ _ _ _ _ _; rw [List.map_append]; exact hR4
  clear b4 hR4 hsn hWp HWA HRT
  go_wp2_with fail
  refine (release_any d lo (w.heap.size + 1 + 1) G M pb cp n1 (n3 + 1) (n3 + 1) o4 _ _ fs _ _ HR4.out HW4.out HD4.out HF4.out (by omega) hn40 (by omega) hdd (by omega) (by omega) (by omega)).mono ?_
  rintro e W5 ⟨rfl, b5, o5, k5, qz, f5, hR5, hW5, hV5, hF5⟩
  have sW5 := b5.size
  replace L_r := Lib.hid (show Lies W5 (w.heap.size + 1) 53 #[.int .i64 0, .int .i64 0, .slice none 0 0, .slice none 0 0, .slice none 0 0, .int .i64 0] from (b5.block (w.heap.size + 1) (by omega)).trans L_r.out)
  replace B := Lib.hid (B.out.trans (b5.mono (by omega)))
  rw [HV4.out] at hV5
  have HR5 := Lib.hid hR5
  have HW5 := Lib.hid hW5
  have HV5 := Lib.hid hV5
  have HFL : Hid (freeL 0 qz = relS (rs.map RV.val ++ [((k : Int), ws)]) fs) := by
    show _ = _
    obtain ⟨hal, hri⟩ := freeF_rises HFF.out
    rw [HL.out] at hal
    refine freeL_is (relS_rises hri HD4.out (fun u hu => ?_)) (fun x hx => ?_) (fun i p hp => ?_)
    · rcases List.mem_append.1 hu with hu | hu
      · exact takenF_free HTK.out (List.mem_map.2 ⟨u, hu, rfl⟩)
      · simp only [List.mem_singleton] at hu; subst hu; exact HFE.out.symm
    · have hlz : qz.length = n1 := HR5.out.G'.R.l
      rcases relS_mem.1 hx with hx | ⟨u, hu, hu1, _⟩
      · have := allIn_mem hal hx; omega
      · rcases List.mem_append.1 hu with hu | hu
        · obtain ⟨i, hi⟩ := List.getElem?_of_mem hu
          obtain ⟨⟨h0, h1⟩, _⟩ := retF_zero (firstNZ_zero (arenaF_zero HZ.out).2.2.2.2.1 i _ hi)
          rw [HL.out] at h1; omega
        · simp only [List.mem_singleton] at hu; subst hu; simp only at hu1; omega
    · rw [hF5 i p hp]; simp
  have HNE : Hid (∀ u ∈ relU (rs.map RV.val ++ [((k : Int), ws)]), 0 < u.2.length ∧ u.2.length ≤ 4) := by
    intro u hu
    obtain ⟨hm, hne⟩ := List.mem_filter.1 hu
    have h0 : 0 < u.2.length := by
      cases h2 : u.2 with
      | nil => rw [h2] at hne; exact absurd hne (by decide)
      | cons a t => simp
    refine ⟨h0, ?_⟩
    rcases List.mem_append.1 hm with hm | hm
    · obtain ⟨i, hi⟩ := List.getElem?_of_mem hm
      exact (retF_zero (firstNZ_zero (arenaF_zero HZ.out).2.2.2.2.1 i _ hi)).2.2
    · simp only [List.mem_singleton] at hm; subst hm; rw [HLW.out]; exact hw4
  have hk5 : k5 ≤ 1048576 := by
    have h1 := HR5.out.S.1
    have h2 : (relU (rs.map RV.val ++ [((k : Int), ws)])).length ≤ (rs.map RV.val ++ [((k : Int), ws)]).length := List.length_filter_le _ _
    rw [List.length_append, HL3.out] at h2
    simp only [List.length_map, Nat.mul_one, List.length_singleton] at h1 h2
    omega
  clear b5 hR5 hW5 hV5 hF5 HR4 HW4 HD4 HF4 HV4
  go_wp2_with fail
  refine (arena_any lo G M pb cp n1 (n3 + 1) k5 d o5 qz _ f5 (relU (rs.map RV.val ++ [((k : Int), ws)])) _ HR5.out HW5.out rfl HNE.out hn40 hk5).mono ?_
  rintro e W6 ⟨A1', c1', kf, A2', c2', A3', c3', qn, rn, rfl, hAn, hvn, hun, b6⟩
  rw [HFL.out] at hAn
  have sW6 := b6.size
  replace L_r := Lib.hid (L_r.out.kept b6 L_r.out.inside)
  replace B := Lib.hid (B.out.trans (b6.mono B.out.size))
  have HAN := Lib.hid hAn
  have HVA : Hid (qn.map NV.val = relV (rs.map RV.val ++ [((k : Int), ws)]) (ns.map NV.val)) := hvn.trans HV5.out
  have HUA := Lib.hid hun
  clear hAn hvn hun b6
  have z0 : W6.cell? ⟨w.heap.size + 1, 0, none⟩ = some (.int .i64 0) := L_r.out.cell 0
  have y0 : W6.frozen? ⟨w.heap.size + 1, 0, none⟩ = false := L_r.out.thawed 0
  have z1 : W6.cell? ⟨w.heap.size + 1, 1, none⟩ = some (.int .i64 0) := L_r.out.cell 1
  have y1 : W6.frozen? ⟨w.heap.size + 1, 1, none⟩ = false := L_r.out.thawed 1
  have z2 : W6.cell? ⟨w.heap.size + 1, 2, none⟩ = some (.slice none 0 0) := L_r.out.cell 2
  have y2 : W6.frozen? ⟨w.heap.size + 1, 2, none⟩ = false := L_r.out.thawed 2
  have z3 : W6.cell? ⟨w.heap.size + 1, 3, none⟩ = some (.slice none 0 0) := L_r.out.cell 3
  have y3 : W6.frozen? ⟨w.heap.size + 1, 3, none⟩ = false := L_r.out.thawed 3
  have z4 : W6.cell? ⟨w.heap.size + 1, 4, none⟩ = some (.slice none 0 0) := L_r.out.cell 4
  have y4 : W6.frozen? ⟨w.heap.size + 1, 4, none⟩ = false := L_r.out.thawed 4
  have z5 : W6.cell? ⟨w.heap.size + 1, 5, none⟩ = some (.int .i64 0) := L_r.out.cell 5
  have y5 : W6.frozen? ⟨w.heap.size + 1, 5, none⟩ = false := L_r.out.thawed 5
  go_wp2
  refine bodyPost_ret (v := .agg #[.int .i64 0, .int .i64 d, .slice A1' n1 c1', .slice A2' kf c2', .slice A3' k5 c3', .int .i64 0]) (by simp [results, Tryz.results23, go_sem, z0, z1, z2, z3, z4, z5]) rfl ?_
  with_reducible refine ImPost.yes HR.out ?_ HVA.out HUA.out ?_
  · refine AnsAr.lower (lo := W5.heap.size) ?_ (by omega)
    with_reducible (repeat (first | exact HAN.out | refine AnsAr.far ?_ ?_ _))
    all_goals (show w.heap.size + 1 < _; omega)
  · with_reducible (repeat (first | exact B.out | refine Below.setCell ?_ ?_ _))
    all_goals (show w.heap.size ≤ w.heap.size + 1; omega)

end Go.Proofs.YtpgoildfjkokiaaGreat
