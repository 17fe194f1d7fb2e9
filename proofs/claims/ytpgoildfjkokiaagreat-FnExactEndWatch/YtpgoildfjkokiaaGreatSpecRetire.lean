/- The walks of spec.l4Retire and spec.RetireNode. -/
import Derived.Test.YtpgoildfjkokiaaGreatSpecGive
namespace Go.Proofs.YtpgoildfjkokiaaGreat
open Go.RowKit

set_option maxRecDepth 100000 in
set_option maxHeartbeats 12800000 in
theorem l4Retire_any (d : Int) (base B g n1 c1 n2 c2 n3 c3 nw cw i : Nat) (A2 A3 Aw : Option Addr) (ns : List NV) (fs : List Int) (rs : List RV) (ws : List Int) (w : World) (h : SpAr w base B d (some ⟨g, 0, none⟩) n1 c1 A2 n2 c2 A3 n3 c3 ns fs rs) (hi : i < n1) (hn1 : n1 ≤ 40) (hn2 : n2 ≤ 1048575) (hn3 : n3 ≤ 1048575) (hlo : base ≤ w.heap.size) (hbB : base ≤ B) (hw : Ints w 0 Aw nw ws) (hnw : nw ≤ 4) :
    Calls Tryz.prog 61 #[.pointer (some ⟨B, 0, none⟩), .int .i64 (i : Int), .slice Aw nw cw] w fun e w' => ∃ A2' n2' c2' A3' n3' c3' ns' fs' rs', e = .returned noResult ∧ SpAr w' base B d (some ⟨g, 0, none⟩) n1 c1 A2' n2' c2' A3' n3' c3' ns' fs' rs' ∧ n2' ≤ n2 + 1 ∧ n3' ≤ n3 + 1 ∧ Below base w w' ∧ ((ws.isEmpty = true ∧ ns'.map NV.val = (ns.map NV.val).set i vacV ∧ fs' = giveF (i : Int) fs ∧ rs' = rs) ∨ (ws.isEmpty = false ∧ ns' = ns ∧ fs' = fs ∧ rs'.map RV.val = rs.map RV.val ++ [((i : Int), ws)])) := by
  have H := Lib.hid h
  have HW := Lib.hid hw
  have hWL : ws.length = nw := hw.1
  have hBi := h.o.inside
  have gsz := (h.V.inB g (Or.inl rfl)).2
  have glo := (h.V.inB g (Or.inl rfl)).1
  obtain ⟨l0, hl0, hy0, hy1, hy2⟩ := info_ret
  have LP := Lib.hid (And.intro hl0 (And.intro hy0 (And.intro hy1 hy2)))
  clear hl0 hy0 hy1 hy2 h hw
  rcases Nat.eq_zero_or_pos nw with rfl | h0
  · obtain rfl : ws = [] := List.eq_nil_of_length_eq_zero hWL
    go_enter Tryz.func61, Tryz.ntmps61
    rcases Aw with _ | Aw
    all_goals
      go_wp2_with fail
      refine (l4Give_any d base B g n1 c1 n2 c2 n3 c3 i A2 A3 ns fs rs _ H.out hi hn1 hn2 hlo).mono ?_
      rintro e W1 ⟨A2', c2', q, rfl, hS, hq, hT⟩
      have HS := Lib.hid hS
      have HB : Hid (Below base w W1) := hT.1 base (fun x hx => by rcases hx with rfl | rfl <;> omega) hlo
      have HVQ : Hid ((ns.set i q).map NV.val = (ns.map NV.val).set i vacV) := by show _ = _; rw [List.map_set, hq]
      clear hS hq hT
      go_wp2
      refine bodyPost_ret (results_none rfl _ _ _) rfl ?_
      exact ⟨A2', n2 + 1, c2', A3, n3, c3, _, _, rs, rfl, HS.out, Nat.le_refl _, Nat.le_succ _, HB.out, Or.inl ⟨rfl, HVQ.out, rfl, rfl⟩⟩
  have hz0 : ((nw : Int) == 0) = false := by rw [beq_eq_false_iff_ne]; omega
  have hWE : Hid (ws.isEmpty = false) := by
    show _ = _
    cases ws with
    | nil => simp at hWL; omega
    | cons a t => rfl
  obtain ⟨wb, wo, hAw⟩ : ∃ b o, Aw = some ⟨b, o, none⟩ := by
    obtain ⟨b, o, e, _⟩ := HW.out.2 h0
    exact ⟨b, o, e⟩
  subst hAw
  have oc : w.cell? ⟨B, 3, none⟩ = some (.slice A3 n3 c3) := H.out.o.cell 3
  go_enter Tryz.func61, Tryz.ntmps61
  go_upto_region 2 with fail
  refine wp_region_last 13 (fun w' => w'.cell? ⟨B, 3, none⟩ = some (.slice A3 n3 c3)) (by kernel_rfl) (oc) (fun hHeld => ?_)
  apply wpAnyL_take (i := 0)
  · simp only [List.getElem?_toArray, List.getElem?_cons_succ, List.getElem?_cons_zero]; exact rfl
  refine ⟨⟨by kernel_rfl, by kernel_rfl, by kernel_rfl, by kernel_rfl, by kernel_rfl⟩, fun _ _ _ h => h, ?_, hHeld, ?_⟩
  · intro w hSw; (try dsimp only at hSw); go_simp; all_goals (with_reducible rfl)
  (try simp only [Act.put, List.setIfInBounds_toArray, List.set_cons_zero, List.set_cons_succ])
  apply wpAnyL_take (i := 1)
  · simp only [List.getElem?_toArray, List.getElem?_cons_succ, List.getElem?_cons_zero]; exact rfl
  refine ⟨⟨by kernel_rfl, by kernel_rfl, by kernel_rfl, by kernel_rfl, by kernel_rfl⟩, fun _ _ _ h => h, ?_, hHeld, ?_⟩
  · intro w hSw; (try dsimp only at hSw); go_simp; all_goals (with_reducible rfl)
  (try simp only [Act.put, List.setIfInBounds_toArray, List.set_cons_zero, List.set_cons_succ])
  apply wpAnyL_take (i := 2)
  · simp only [List.getElem?_toArray, List.getElem?_cons_succ, List.getElem?_cons_zero]; exact rfl
  refine ⟨⟨by kernel_rfl, by kernel_rfl, by kernel_rfl, by kernel_rfl, by kernel_rfl⟩, fun _ _ _ h => h, ?_, hHeld, ?_⟩
  · intro w hSw; (try dsimp only at hSw); go_simp; all_goals (with_reducible rfl)
  (try simp only [Act.put, List.setIfInBounds_toArray, List.set_cons_zero, List.set_cons_succ])
  apply wpAnyL_take (i := 3)
  · simp only [List.getElem?_toArray, List.getElem?_cons_succ, List.getElem?_cons_zero]; exact rfl
  refine ⟨⟨by kernel_rfl, by kernel_rfl, by kernel_rfl, by kernel_rfl, by kernel_rfl⟩, fun _ _ _ h => h, ?_, hHeld, ?_⟩
  · intro w hSw; (try dsimp only at hSw); go_simp; all_goals (with_reducible rfl)
  (try simp only [Act.put, List.setIfInBounds_toArray, List.set_cons_zero, List.set_cons_succ])
  apply wpAnyL_take (i := 4)
  · simp only [List.getElem?_toArray, List.getElem?_cons_succ, List.getElem?_cons_zero]; exact rfl
  refine ⟨⟨by kernel_rfl, by kernel_rfl, by kernel_rfl, by kernel_rfl, by kernel_rfl⟩, fun _ _ _ h => h, ?_, hHeld, ?_⟩
  · intro w hSw; (try dsimp only at hSw); go_simp; all_goals (with_reducible rfl)
  (try simp only [Act.put, List.setIfInBounds_toArray, List.set_cons_zero, List.set_cons_succ])
  apply wpAnyL_take (i := 5)
  · simp only [List.getElem?_toArray, List.getElem?_cons_succ, List.getElem?_cons_zero]; exact rfl
  refine ⟨⟨by kernel_rfl, by kernel_rfl, by kernel_rfl, by kernel_rfl, by kernel_rfl⟩, fun _ _ _ h => h, ?_, hHeld, ?_⟩
  · intro w hSw; (try dsimp only at hSw); go_simp; all_goals (with_reducible rfl)
  (try simp only [Act.put, List.setIfInBounds_toArray, List.set_cons_zero, List.set_cons_succ])
  apply wpAnyL_take (i := 6)
  · simp only [List.getElem?_toArray, List.getElem?_cons_succ, List.getElem?_cons_zero]; exact rfl
  refine ⟨⟨by kernel_rfl, by kernel_rfl, by kernel_rfl, by kernel_rfl, by kernel_rfl⟩, fun _ _ _ h => h, ?_, hHeld, ?_⟩
  · intro w hSw; (try dsimp only at hSw); go_simp; all_goals (with_reducible rfl)
  (try simp only [Act.put, List.setIfInBounds_toArray, List.set_cons_zero, List.set_cons_succ])
  apply wpAnyL_one (i := 7)
  · simp only [List.getElem?_toArray, List.getElem?_cons_succ, List.getElem?_cons_zero]; exact rfl
  refine ⟨by kernel_rfl, fun K hK => ?_⟩
  go_simp
  go_at_call 96
  refine (l1Ints_all nw cw 0 (some ⟨wb, wo, none⟩) ws _ (HW.out.kept (Below.refl w.heap.size w).drew) (by omega)).mono ?_
  rintro e W1 ⟨A9, c9, rfl, hcr, b1d⟩
  have b1 := below_drawn b1d
  have hCR : Hid (W1.ownsRow w.heap.size 2 1 (.slice A9 nw c9) nw (ws.map (Value.int .i64))) := hcr
  have hbW := Lib.hid b1
  have hbS := b1.size
  have hX1 := Lib.hid (H.out.kept b1)
  have hbr := Lib.hid (ownsRow_block2 hX1.out.V.R.S)
  have k_1 : W1.cell? ⟨B, 3, none⟩ = some (.slice A3 n3 c3) := hX1.out.o.cell 3
  have bA := below_alloc W1 (.cells #[.int .i64 (i : Int), .slice A9 nw c9] 123)
  clear b1 b1d hcr
  have hS_7 := k_1
  refine hK.out _ _ (fun _ => hS_7) ?_
  clear hK K
  (try simp only [Act.put, List.setIfInBounds_toArray, List.set_cons_zero, List.set_cons_succ])
  apply wpAnyL_take (i := 8)
  · simp only [List.getElem?_toArray, List.getElem?_cons_succ, List.getElem?_cons_zero]; exact rfl
  refine ⟨⟨by kernel_rfl, by kernel_rfl, by kernel_rfl, by kernel_rfl, by kernel_rfl⟩, fun _ _ _ h => h, ?_, hS_7, ?_⟩
  · intro w hSw; (try dsimp only at hSw); go_simp; all_goals (with_reducible rfl)
  (try simp only [Act.put, List.setIfInBounds_toArray, List.set_cons_zero, List.set_cons_succ])
  apply wpAnyL_one (i := 9)
  · simp only [List.getElem?_toArray, List.getElem?_cons_succ, List.getElem?_cons_zero]; exact rfl
  refine ⟨by kernel_rfl, fun K hK => ?_⟩
  go_simp
  have hS_9 := ((bA.cell (p := ⟨B, 3, none⟩) (by show B < _; omega)).trans k_1 : (W1.alloc (.cells #[.int .i64 (i : Int), .slice A9 nw c9] 123)).cell? ⟨B, 3, none⟩ = some (.slice A3 n3 c3))
  refine hK.out _ _ (fun _ => hS_9) ?_
  clear hK K
  (try simp only [Act.put, List.setIfInBounds_toArray, List.set_cons_zero, List.set_cons_succ])
  apply wpAnyL_one (i := 10)
  · simp only [List.getElem?_toArray, List.getElem?_cons_succ, List.getElem?_cons_zero]; exact rfl
  refine ⟨by kernel_rfl, fun K hK => ?_⟩
  apply step_append_lies (s := .tmp 16) (x := .tmp 21) (t := 24) (base := base) (e := 123) (i := l0) (z := .agg #[.int .i64 0, .slice none 0 0]) (size := 2) (bytes := 32) (v := .slice A3 n3 c3) (n := n3) (xs := rs.flatMap RV.cells) (ad := ⟨W1.heap.size, 0, none⟩) (m := 1) (c := 1) (news := [.int .i64 (i : Int), .slice A9 nw c9]) (H := W1.heap.size + 1)
  case hgd => rfl
  case ho => rfl
  case ht => exact Tryz.underlying24
  case hi => exact LP.out.1
  case hz => exact LP.out.2.1
  case hsize => exact LP.out.2.2.1
  case hby => exact LP.out.2.2.2
  case hzs => rfl
  case hsz => omega
  case hs => rfl
  case hown => exact hX1.out.V.R.S.alloc _
  case hx => rfl
  case hl => rfl
  case hnews => exact World.news_of_block (cs := #[.int .i64 (i : Int), .slice A9 nw c9]) (t := 123) (fr := (0, 0)) (Lies.new W1 123 #[.int .i64 (i : Int), .slice A9 nw c9])
  case h1 => simp [Value.oneCell']
  case hm => omega
  case h63 => unfold maxLen; omega
  case hbytes => omega
  case hbase => simp only [World.size_alloc]; omega
  case hH => simp only [World.size_alloc]
  intro gg cap w1 hown1 hgrow hat hlt1
  have hS2 := Lib.hid (SpAr.put (q := ⟨(i : Int), A9, nw, c9, ws⟩) H.out (hbW.out.alloc hbS (.cells #[.int .i64 (i : Int), .slice A9 nw c9] 123)) (hCR.out.alloc _) hlo hown1 hgrow (hat.imp _root_.id fun h => by (try simp only [World.size_alloc]); omega))
  have hB2 : Hid (Below base w (w1.setCell ⟨B, 3, none⟩ (.slice (some ⟨gg, 0, none⟩) (n3 + 1) cap))) := (below_grown2 ((hbW.out.alloc hbS (.cells #[.int .i64 (i : Int), .slice A9 nw c9] 123)).mono hlo) hgrow (fun r e => (hbr.out r e).1) (by simp only [World.size_alloc]; omega)).setCell (p := ⟨B, 3, none⟩) hbB _
  have LM := Lib.hid ((hX1.out.alloc (.cells #[.int .i64 (i : Int), .slice A9 nw c9] 123)).mid hgrow)
  have s0 : w1.cell? ⟨B, 3, none⟩ = some (.slice A3 n3 c3) := LM.out.cell 3
  have s1 : w1.frozen? ⟨B, 3, none⟩ = false := LM.out.thawed 3
  have hS_10 := s0
  refine hK.out _ _ (fun _ => hS_10) ?_
  clear hK K
  (try simp only [Act.put, List.setIfInBounds_toArray, List.set_cons_zero, List.set_cons_succ])
  apply wpAnyL_one (i := 11)
  · simp only [List.getElem?_toArray, List.getElem?_cons_succ, List.getElem?_cons_zero]; exact rfl
  refine ⟨by kernel_rfl, fun K hK => ?_⟩
  go_simp
  have hS_11 := hS_10
  refine hK.out _ _ (fun _ => hS_11) ?_
  clear hK K
  (try simp only [Act.put, List.setIfInBounds_toArray, List.set_cons_zero, List.set_cons_succ])
  apply wpAnyL_one (i := 12)
  · simp only [List.getElem?_toArray, List.getElem?_cons_succ, List.getElem?_cons_zero]; exact rfl
  refine ⟨by kernel_rfl, fun K hK => ?_⟩
  go_simp
  have hS_12 := hS_11
  refine hK.out _ _ (fun _ => hS_12) ?_
  clear hK K
  (try simp only [Act.put, List.setIfInBounds_toArray, List.set_cons_zero, List.set_cons_succ])
  apply wpAnyL_one (i := 13)
  · simp only [List.getElem?_toArray, List.getElem?_cons_succ, List.getElem?_cons_zero]; exact rfl
  refine ⟨by kernel_rfl, fun K hK => ?_⟩
  go_simp
  refine hK.out _ _ (fun h => absurd rfl h) ?_
  clear hK K
  refine wpAnyL_done (by kernel_rfl) ?_ _
  clear hS_7 hS_9 hS_10 hS_11 hS_12 k_1 s0 s1 oc hHeld
  go_wp2
  go_end0
  exact ⟨A2, n2, c2, _, n3 + 1, cap, ns, fs, _, rfl, hS2.out, Nat.le_succ _, Nat.le_refl _, hB2.out, Or.inr ⟨hWE.out, rfl, rfl, by rw [List.map_append]; rfl⟩⟩

set_option maxRecDepth 100000 in
set_option maxHeartbeats 12800000 in
theorem specRetireNode_any (d id : Int) (n1 c1 n2 c2 n3 c3 nw cw : Nat) (A1 A2 A3 Aw : Option Addr) (ns : List NV) (fs : List Int) (rs : List RV) (ws : List Int) (w : World) (hp : ArenaL w A1 A2 A3 n1 n2 n3 ns fs rs) (hc1 : n1 ≤ c1) (hcm : c1 ≤ maxLen) (hfew : n1 + n2 + n3 ≤ 1048576) (hw : Ints w 0 Aw nw ws) (hnw : nw ≤ maxLen) :
    Calls Tryz.prog 21 #[.agg #[.int .i64 d, .slice A1 n1 c1, .slice A2 n2 c2, .slice A3 n3 c3], .int .i64 id, .slice Aw nw cw] w (SpPost (retireR d (ns.map NV.val) fs (rs.map RV.val) id ws) w) := by
  have HW := Lib.hid hw
  have HLW : Hid (ws.length = nw) := hw.1
  clear hw
  have m2 : n2 ≤ 1048576 := by omega
  have m3 : n3 ≤ 1048576 := by omega
  have HP := Lib.hid hp
  have m1 := hp.m1
  have HL : Hid ((ns.map NV.val).length = n1) := by show List.length _ = n1; rw [List.length_map]; exact hp.N.1
  clear hp
  have B := Lib.hid (below_alloc w (.cells #[.int .i64 d, .slice A1 n1 c1, .slice A2 n2 c2, .slice A3 n3 c3] 26))
  replace B := Lib.hid (B.out.alloc B.out.size (.cells #[.int .i64 0, .int .i64 0, .slice none 0 0, .slice none 0 0, .slice none 0 0, .int .i64 0] 53))
  have L_a := Lib.hid ((Lies.new w 26 #[.int .i64 d, .slice A1 n1 c1, .slice A2 n2 c2, .slice A3 n3 c3]).alloc (.cells #[.int .i64 0, .int .i64 0, .slice none 0 0, .slice none 0 0, .slice none 0 0, .int .i64 0] 53))
  have L_r := Lib.hid (Lies.new (w.alloc (.cells #[.int .i64 d, .slice A1 n1 c1, .slice A2 n2 c2, .slice A3 n3 c3] 26)) 53 #[.int .i64 0, .int .i64 0, .slice none 0 0, .slice none 0 0, .slice none 0 0, .int .i64 0])
  simp only [World.size_alloc] at L_r
  go_enter Tryz.func21, Tryz.ntmps21
  go_wp2_with fail
  refine (specArenaFault_any d n1 c1 n2 c2 n3 c3 A1 A2 A3 ns fs rs _ (HP.out.kept B.out) hc1 hcm).mono ?_
  rintro e W1 ⟨rfl, b1⟩
  replace L_r := Lib.hid (L_r.out.kept b1 L_r.out.inside)
  replace L_a := Lib.hid (L_a.out.kept b1 L_a.out.inside)
  replace B := Lib.hid (B.out.trans (b1.mono B.out.size))
  clear b1
  by_cases hz : arenaF d (ns.map NV.val) fs (rs.map RV.val) = 0
  rotate_left
  · have hz1 : (arenaF d (ns.map NV.val) fs (rs.map RV.val) != 0) = true := by simpa using hz
    have HR := Lib.hid (retireR_arena (id := id) (ws := ws) hz)
    clear hz
    have z0 : W1.cell? ⟨w.heap.size + 1, 0, none⟩ = some (.int .i64 0) := L_r.out.cell 0
    have y0 : W1.frozen? ⟨w.heap.size + 1, 0, none⟩ = false := L_r.out.thawed 0
    have z1 : W1.cell? ⟨w.heap.size + 1, 1, none⟩ = some (.int .i64 0) := L_r.out.cell 1
    have y1 : W1.frozen? ⟨w.heap.size + 1, 1, none⟩ = false := L_r.out.thawed 1
    have z2 : W1.cell? ⟨w.heap.size + 1, 2, none⟩ = some (.slice none 0 0) := L_r.out.cell 2
    have y2 : W1.frozen? ⟨w.heap.size + 1, 2, none⟩ = false := L_r.out.thawed 2
    have z3 : W1.cell? ⟨w.heap.size + 1, 3, none⟩ = some (.slice none 0 0) := L_r.out.cell 3
    have y3 : W1.frozen? ⟨w.heap.size + 1, 3, none⟩ = false := L_r.out.thawed 3
    have z4 : W1.cell? ⟨w.heap.size + 1, 4, none⟩ = some (.slice none 0 0) := L_r.out.cell 4
    have y4 : W1.frozen? ⟨w.heap.size + 1, 4, none⟩ = false := L_r.out.thawed 4
    have z5 : W1.cell? ⟨w.heap.size + 1, 5, none⟩ = some (.int .i64 0) := L_r.out.cell 5
    have y5 : W1.frozen? ⟨w.heap.size + 1, 5, none⟩ = false := L_r.out.thawed 5
    go_wp2
    refine bodyPost_ret (v := .agg #[.int .i64 (arenaF d (ns.map NV.val) fs (rs.map RV.val)), .int .i64 0, .slice none 0 0, .slice none 0 0, .slice none 0 0, .int .i64 0]) (by simp [results, Tryz.results21, go_sem, z0, z1, z2, z3, z4, z5]) rfl ?_
    with_reducible refine SpPost.no HR.out ?_
    with_reducible (repeat (first | exact B.out | refine Below.setCell ?_ ?_ _))
    all_goals (show w.heap.size ≤ w.heap.size + 1; omega)
  have hz1 : (arenaF d (ns.map NV.val) fs (rs.map RV.val) != 0) = false := by simp [hz]
  have HZ := Lib.hid hz
  obtain ⟨hdd, hnn, hnz, hff, _⟩ := arenaF_zero hz
  have hn40 : n1 ≤ 40 := by rw [HL.out] at hnn; exact hnn.2
  have hn14 : 4 ≤ n1 := by rw [HL.out] at hnn; exact hnn.1
  have HNS : Hid (∀ q ∈ ns, q.n1 ≤ 6 ∧ LensE d.toNat (q.es.map EV.val)) := by
    intro q hq
    obtain ⟨k, hk⟩ := List.getElem?_of_mem hq
    obtain ⟨_, a2, a3, _, _⟩ := nodeF_zero (firstNZ_zero hnz k _ (nval_get hk))
    have h1 := (HP.out.N.2.2 q hq).1.1
    simp only [NV.val, List.length_map] at a2
    exact ⟨by omega, lens_of a3⟩
  have HRS : Hid (∀ q ∈ rs, q.n1 ≤ 10) := by
    intro q hq
    obtain ⟨k, hk⟩ := List.getElem?_of_mem hq
    have h1 := (retF_zero (firstNZ_zero (arenaF_zero HZ.out).2.2.2.2.1 k _ (rval_get hk))).2.2
    have h2 := (HP.out.R.2.2 q hq).1.1
    simp only [RV.val] at h1
    omega
  have HFL : Hid (fs.length = n2) := HP.out.F.1
  clear hz hnn hnz hff
  have m2' : n2 ≤ 1048575 := by omega
  have m3' : n3 ≤ 1048575 := by omega
  have k1 : W1.cell? ⟨w.heap.size, 1, none⟩ = some (.slice A1 n1 c1) := L_a.out.cell 1
  have k2 : W1.cell? ⟨w.heap.size, 2, none⟩ = some (.slice A2 n2 c2) := L_a.out.cell 2
  go_wp2_with fail
  refine (l4Read_any w.heap.size n1 c1 n2 c2 A1 A2 fs id _ L_a.out.inside k1 k2 (HP.out.F.kept B.out) m1 (Nat.le_trans m2 (by decide))).mono ?_
  rintro e W2 ⟨rfl, b2⟩
  replace L_r := Lib.hid (L_r.out.kept b2 L_r.out.inside)
  replace L_a := Lib.hid (L_a.out.kept b2 L_a.out.inside)
  replace B := Lib.hid (B.out.trans (b2.mono B.out.size))
  clear b2
  clear k1 k2
  by_cases hzr : readF n1 fs id = 0
  rotate_left
  · have hz3 : (readF n1 fs id != 0) = true := by simpa using hzr
    have HR : Hid (retireR d (ns.map NV.val) fs (rs.map RV.val) id ws = arNo (readF n1 fs id)) := by
      show _ = _
      have h1 := retireR_read (ws := ws) HZ.out (by rw [HL.out]; exact hzr)
      rw [HL.out] at h1
      exact h1
    clear hzr
    have z0 : W2.cell? ⟨w.heap.size + 1, 0, none⟩ = some (.int .i64 0) := L_r.out.cell 0
    have y0 : W2.frozen? ⟨w.heap.size + 1, 0, none⟩ = false := L_r.out.thawed 0
    have z1 : W2.cell? ⟨w.heap.size + 1, 1, none⟩ = some (.int .i64 0) := L_r.out.cell 1
    have y1 : W2.frozen? ⟨w.heap.size + 1, 1, none⟩ = false := L_r.out.thawed 1
    have z2 : W2.cell? ⟨w.heap.size + 1, 2, none⟩ = some (.slice none 0 0) := L_r.out.cell 2
    have y2 : W2.frozen? ⟨w.heap.size + 1, 2, none⟩ = false := L_r.out.thawed 2
    have z3 : W2.cell? ⟨w.heap.size + 1, 3, none⟩ = some (.slice none 0 0) := L_r.out.cell 3
    have y3 : W2.frozen? ⟨w.heap.size + 1, 3, none⟩ = false := L_r.out.thawed 3
    have z4 : W2.cell? ⟨w.heap.size + 1, 4, none⟩ = some (.slice none 0 0) := L_r.out.cell 4
    have y4 : W2.frozen? ⟨w.heap.size + 1, 4, none⟩ = false := L_r.out.thawed 4
    have z5 : W2.cell? ⟨w.heap.size + 1, 5, none⟩ = some (.int .i64 0) := L_r.out.cell 5
    have y5 : W2.frozen? ⟨w.heap.size + 1, 5, none⟩ = false := L_r.out.thawed 5
    go_wp2
    refine bodyPost_ret (v := .agg #[.int .i64 (readF n1 fs id), .int .i64 0, .slice none 0 0, .slice none 0 0, .slice none 0 0, .int .i64 0]) (by simp [results, Tryz.results21, go_sem, z0, z1, z2, z3, z4, z5]) rfl ?_
    with_reducible refine SpPost.no HR.out ?_
    with_reducible (repeat (first | exact B.out | refine Below.setCell ?_ ?_ _))
    all_goals (show w.heap.size ≤ w.heap.size + 1; omega)
  have hz3 : (readF n1 fs id != 0) = false := by simp [hzr]
  have HRD : Hid (readF (ns.map NV.val).length fs id = 0) := by show _ = _; rw [HL.out]; exact hzr
  obtain ⟨⟨q0, q1⟩, _⟩ := readF_zero hzr
  obtain ⟨k, rfl⟩ := Int.eq_ofNat_of_zero_le q0
  have hk : k < n1 := by omega
  clear hzr q0 q1
  have k3 : W2.cell? ⟨w.heap.size, 3, none⟩ = some (.slice A3 n3 c3) := L_a.out.cell 3
  cases htk : ((rs.map RV.val).map (·.1)).contains (k : Int)
  rotate_left
  · have HR : Hid (retireR d (ns.map NV.val) fs (rs.map RV.val) (k : Int) ws = arNo 6) := retireR_taken HZ.out HRD.out htk
    have HTK := Lib.hid htk
    clear htk
    go_wp2_with fail
    refine (l4Retired_any w.heap.size n3 c3 A3 rs (k : Int) true _ HTK.out k3 (HP.out.R.kept B.out) (by unfold maxLen; omega)).mono ?_
    rintro e w' ⟨rfl, rfl⟩
    clear k3
    have z0 : W2.cell? ⟨w.heap.size + 1, 0, none⟩ = some (.int .i64 0) := L_r.out.cell 0
    have y0 : W2.frozen? ⟨w.heap.size + 1, 0, none⟩ = false := L_r.out.thawed 0
    have z1 : W2.cell? ⟨w.heap.size + 1, 1, none⟩ = some (.int .i64 0) := L_r.out.cell 1
    have y1 : W2.frozen? ⟨w.heap.size + 1, 1, none⟩ = false := L_r.out.thawed 1
    have z2 : W2.cell? ⟨w.heap.size + 1, 2, none⟩ = some (.slice none 0 0) := L_r.out.cell 2
    have y2 : W2.frozen? ⟨w.heap.size + 1, 2, none⟩ = false := L_r.out.thawed 2
    have z3 : W2.cell? ⟨w.heap.size + 1, 3, none⟩ = some (.slice none 0 0) := L_r.out.cell 3
    have y3 : W2.frozen? ⟨w.heap.size + 1, 3, none⟩ = false := L_r.out.thawed 3
    have z4 : W2.cell? ⟨w.heap.size + 1, 4, none⟩ = some (.slice none 0 0) := L_r.out.cell 4
    have y4 : W2.frozen? ⟨w.heap.size + 1, 4, none⟩ = false := L_r.out.thawed 4
    have z5 : W2.cell? ⟨w.heap.size + 1, 5, none⟩ = some (.int .i64 0) := L_r.out.cell 5
    have y5 : W2.frozen? ⟨w.heap.size + 1, 5, none⟩ = false := L_r.out.thawed 5
    go_wp2
    refine bodyPost_ret (v := .agg #[.int .i64 (6), .int .i64 0, .slice none 0 0, .slice none 0 0, .slice none 0 0, .int .i64 0]) (by simp [results, Tryz.results21, go_sem, z0, z1, z2, z3, z4, z5]) rfl ?_
    with_reducible refine SpPost.no HR.out ?_
    with_reducible (repeat (first | exact B.out | refine Below.setCell ?_ ?_ _))
    all_goals (show w.heap.size ≤ w.heap.size + 1; omega)
  have HNT := Lib.hid htk
  clear htk
  go_wp2_with fail
  refine (l4Retired_any w.heap.size n3 c3 A3 rs (k : Int) false _ HNT.out k3 (HP.out.R.kept B.out) (by unfold maxLen; omega)).mono ?_
  rintro e w' ⟨rfl, rfl⟩
  clear k3
  go_wp2_with fail
  refine (l4Watch_any nw cw 0 Aw ws _ (HW.out.kept B.out) hnw).mono ?_
  rintro e W3 ⟨rfl, b3⟩
  replace L_r := Lib.hid (L_r.out.kept b3 L_r.out.inside)
  replace L_a := Lib.hid (L_a.out.kept b3 L_a.out.inside)
  replace B := Lib.hid (B.out.trans (b3.mono B.out.size))
  clear b3
  by_cases hzw : watchF ws = 0
  rotate_left
  · have hz5 : (watchF ws != 0) = true := by simpa using hzw
    have HR : Hid (retireR d (ns.map NV.val) fs (rs.map RV.val) (k : Int) ws = arNo (watchF ws)) := retireR_watch HZ.out HRD.out HNT.out hzw
    clear hzw
    have z0 : W3.cell? ⟨w.heap.size + 1, 0, none⟩ = some (.int .i64 0) := L_r.out.cell 0
    have y0 : W3.frozen? ⟨w.heap.size + 1, 0, none⟩ = false := L_r.out.thawed 0
    have z1 : W3.cell? ⟨w.heap.size + 1, 1, none⟩ = some (.int .i64 0) := L_r.out.cell 1
    have y1 : W3.frozen? ⟨w.heap.size + 1, 1, none⟩ = false := L_r.out.thawed 1
    have z2 : W3.cell? ⟨w.heap.size + 1, 2, none⟩ = some (.slice none 0 0) := L_r.out.cell 2
    have y2 : W3.frozen? ⟨w.heap.size + 1, 2, none⟩ = false := L_r.out.thawed 2
    have z3 : W3.cell? ⟨w.heap.size + 1, 3, none⟩ = some (.slice none 0 0) := L_r.out.cell 3
    have y3 : W3.frozen? ⟨w.heap.size + 1, 3, none⟩ = false := L_r.out.thawed 3
    have z4 : W3.cell? ⟨w.heap.size + 1, 4, none⟩ = some (.slice none 0 0) := L_r.out.cell 4
    have y4 : W3.frozen? ⟨w.heap.size + 1, 4, none⟩ = false := L_r.out.thawed 4
    have z5 : W3.cell? ⟨w.heap.size + 1, 5, none⟩ = some (.int .i64 0) := L_r.out.cell 5
    have y5 : W3.frozen? ⟨w.heap.size + 1, 5, none⟩ = false := L_r.out.thawed 5
    go_wp2
    refine bodyPost_ret (v := .agg #[.int .i64 (watchF ws), .int .i64 0, .slice none 0 0, .slice none 0 0, .slice none 0 0, .int .i64 0]) (by simp [results, Tryz.results21, go_sem, z0, z1, z2, z3, z4, z5]) rfl ?_
    with_reducible refine SpPost.no HR.out ?_
    with_reducible (repeat (first | exact B.out | refine Below.setCell ?_ ?_ _))
    all_goals (show w.heap.size ≤ w.heap.size + 1; omega)
  have hz5 : (watchF ws != 0) = false := by simp [hzw]
  have HR := Lib.hid (retireR_yes HZ.out HRD.out HNT.out hzw)
  have hw4 : nw ≤ 4 := by
    rcases Nat.lt_or_ge 4 ws.length with h5 | h5
    · rw [watchF_many h5] at hzw; omega
    · rw [HLW.out] at h5; exact h5
  clear hzw
  go_wp2_with fail
  refine (l4Copy_any w.heap.size d.toNat n1 c1 n2 c2 n3 c3 d A1 A2 A3 ns fs rs _ L_a.out (HP.out.kept B.out) (by omega) (by omega) HNS.out HRS.out (by omega) m2 m3).mono ?_
  rintro e WC ⟨A1', c1', A2', c2', A3', c3', qs, ts, rfl, hV, hvs, hus, bc⟩
  have SB : Hid (SpAr (WC.alloc (.cells #[.int .i64 d, .slice A1' n1 c1', .slice A2' n2 c2', .slice A3' n3 c3'] 26)) W3.heap.size WC.heap.size d A1' n1 c1' A2' n2 c2' A3' n3 c3' qs fs ts) := hV.laid
  have hAO := owned_at hV.N.S (by omega)
  obtain ⟨g, rfl, _⟩ := hAO
  have sWC := bc.size
  have hri := L_r.out.inside
  have sWB := B.out.size
  replace L_r := Lib.hid (L_r.out.kept bc L_r.out.inside)
  replace L_a := Lib.hid (L_a.out.kept bc L_a.out.inside)
  replace B := Lib.hid (B.out.trans (bc.mono B.out.size))
  clear bc
  replace B := Lib.hid (B.out.alloc B.out.size (.cells #[.int .i64 d, .slice (some ⟨g, 0, none⟩) n1 c1', .slice A2' n2 c2', .slice A3' n3 c3'] 26))
  replace L_r := Lib.hid (L_r.out.alloc (.cells #[.int .i64 d, .slice (some ⟨g, 0, none⟩) n1 c1', .slice A2' n2 c2', .slice A3' n3 c3'] 26))
  have HVQ := Lib.hid hvs
  have HUQ := Lib.hid hus
  clear hV hvs hus
  go_wp2_with fail
  refine (l4Retire_any d W3.heap.size WC.heap.size g n1 c1' n2 c2' n3 c3' nw cw k A2' A3' Aw qs fs ts ws _ SB.out hk hn40 m2' m3' (by simp only [World.size_alloc]; omega) sWC (HW.out.kept B.out) hw4).mono ?_
  rintro e W4 ⟨A2n, n2n, c2n, A3n, n3n, c3n, nsn, fsn, rsn, rfl, hS4, hn2n, hn3n, hb4, hcase⟩
  replace L_r := Lib.hid (show Lies W4 (w.heap.size + 1) 53 #[.int .i64 0, .int .i64 0, .slice none 0 0, .slice none 0 0, .slice none 0 0, .int .i64 0] from (hb4.block (w.heap.size + 1) (by omega)).trans L_r.out)
  replace B := Lib.hid (B.out.trans (hb4.mono (by omega)))
  have S4 := Lib.hid hS4
  have HAW := Lib.hid (arenaF_watched HZ.out)
  have HVN : Hid (nsn.map NV.val = relV (rs.map RV.val ++ [((k : Int), ws)]) (ns.map NV.val)) := by
    show _ = _
    rcases hcase with ⟨h1, h2, _, _⟩ | ⟨h1, h2, _, _⟩
    · obtain rfl : ws = [] := List.isEmpty_iff.1 h1
      rw [h2, HVQ.out, (rel_give (fs := fs) HAW.out).1, Int.toNat_natCast]
    · rw [h2, HVQ.out, (rel_keep (fs := fs) HAW.out h1).1]
  have HFN : Hid (fsn = relS (rs.map RV.val ++ [((k : Int), ws)]) fs) := by
    show _ = _
    rcases hcase with ⟨h1, _, h2, _⟩ | ⟨h1, _, h2, _⟩
    · obtain rfl : ws = [] := List.isEmpty_iff.1 h1
      rw [h2, (rel_give (vs := ns.map NV.val) HAW.out).2.1]
    · rw [h2, (rel_keep (vs := ns.map NV.val) HAW.out h1).2.1]
  have HUN : Hid (rsn.map RV.val = relU (rs.map RV.val ++ [((k : Int), ws)])) := by
    show _ = _
    rcases hcase with ⟨h1, _, _, h2⟩ | ⟨h1, _, _, h2⟩
    · obtain rfl : ws = [] := List.isEmpty_iff.1 h1
      rw [h2, HUQ.out, (rel_give (vs := ns.map NV.val) (fs := fs) HAW.out).2.2]
    · rw [h2, HUQ.out, (rel_keep (vs := ns.map NV.val) (fs := fs) HAW.out h1).2.2]
  have HTS : Hid (∀ q ∈ rsn, q.n1 ≤ 10) := by
    intro q hq
    have h1 : q.val ∈ relU (rs.map RV.val ++ [((k : Int), ws)]) := by rw [← HUN.out]; exact List.mem_map_of_mem hq
    have h5 := (S4.out.V.R.Q q hq).1
    simp only [List.length_map, Nat.mul_one] at h5
    rcases List.mem_append.1 (List.mem_filter.1 h1).1 with h2 | h2
    · obtain ⟨r, hr, hrv⟩ := List.mem_map.1 h2
      have h3 := HRS.out r hr
      have h4 := (HP.out.R.2.2 r hr).1.1
      have h6 : q.ws = r.ws := congrArg (fun v : RVal => v.2) hrv.symm
      rw [h6] at h5; omega
    · simp only [List.mem_singleton] at h2
      have h6 : q.ws = ws := congrArg (fun v : RVal => v.2) h2
      rw [h6, HLW.out] at h5; omega
  clear hS4 hb4 hcase
  rw [← HFN.out] at HR
  have o0 : W4.cell? ⟨WC.heap.size, 0, none⟩ = some (.int .i64 d) := S4.out.o.cell 0
  have o1 : W4.cell? ⟨WC.heap.size, 1, none⟩ = some (.slice (some ⟨g, 0, none⟩) n1 c1') := S4.out.o.cell 1
  have o2 : W4.cell? ⟨WC.heap.size, 2, none⟩ = some (.slice A2n n2n c2n) := S4.out.o.cell 2
  have o3 : W4.cell? ⟨WC.heap.size, 3, none⟩ = some (.slice A3n n3n c3n) := S4.out.o.cell 3
  have z0 : W4.cell? ⟨w.heap.size + 1, 0, none⟩ = some (.int .i64 0) := L_r.out.cell 0
  have y0 : W4.frozen? ⟨w.heap.size + 1, 0, none⟩ = false := L_r.out.thawed 0
  have z1 : W4.cell? ⟨w.heap.size + 1, 1, none⟩ = some (.int .i64 0) := L_r.out.cell 1
  have y1 : W4.frozen? ⟨w.heap.size + 1, 1, none⟩ = false := L_r.out.thawed 1
  have z2 : W4.cell? ⟨w.heap.size + 1, 2, none⟩ = some (.slice none 0 0) := L_r.out.cell 2
  have y2 : W4.frozen? ⟨w.heap.size + 1, 2, none⟩ = false := L_r.out.thawed 2
  have z3 : W4.cell? ⟨w.heap.size + 1, 3, none⟩ = some (.slice none 0 0) := L_r.out.cell 3
  have y3 : W4.frozen? ⟨w.heap.size + 1, 3, none⟩ = false := L_r.out.thawed 3
  have z4 : W4.cell? ⟨w.heap.size + 1, 4, none⟩ = some (.slice none 0 0) := L_r.out.cell 4
  have y4 : W4.frozen? ⟨w.heap.size + 1, 4, none⟩ = false := L_r.out.thawed 4
  have z5 : W4.cell? ⟨w.heap.size + 1, 5, none⟩ = some (.int .i64 0) := L_r.out.cell 5
  have y5 : W4.frozen? ⟨w.heap.size + 1, 5, none⟩ = false := L_r.out.thawed 5
  have AR := Lib.hid (S4.out.V)
  go_wp2
  refine bodyPost_ret (v := .agg #[.int .i64 0, .int .i64 d, .slice (some ⟨g, 0, none⟩) n1 c1', .slice A2n n2n c2n, .slice A3n n3n c3n, .int .i64 0]) (by simp [results, Tryz.results21, go_sem, z0, z1, z2, z3, z4, z5]) rfl ?_
  with_reducible refine SpPost.yes HR.out ?_ HVN.out HUN.out ?_
  · refine SpA.of (base := W3.heap.size) (c1 := c1') (c2 := c2n) (c3 := c3n) ?_ (by omega) (by omega) (by omega) HTS.out (by omega)
    with_reducible (repeat (first | exact AR.out | refine SpV.far ?_ ?_ _))
    all_goals (show w.heap.size + 1 < _; omega)
  · with_reducible (repeat (first | exact B.out | refine Below.setCell ?_ ?_ _))
    all_goals (show w.heap.size ≤ w.heap.size + 1; omega)

end Go.Proofs.YtpgoildfjkokiaaGreat
