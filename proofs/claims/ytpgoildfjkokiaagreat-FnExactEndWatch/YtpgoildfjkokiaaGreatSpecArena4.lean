/- The walk of impl.EndWatch. -/
import Derived.Test.YtpgoildfjkokiaaGreatImplEnd
import Derived.Test.YtpgoildfjkokiaaGreatSpecReadNode
import Derived.Test.YtpgoildfjkokiaaGreatAnswers
namespace Go.Proofs.YtpgoildfjkokiaaGreat
open Go.RowKit Go.Maps

theorem leftU_ids {c : Int} {us : List RVal} : (leftU c us).map (·.1) = us.map (·.1) := by unfold leftU; rw [List.map_map]; rfl
theorem leftU_mem {c : Int} {us : List RVal} {u : RVal} (h : u ∈ leftU c us) : ∃ v ∈ us, v.1 = u.1 := by
  obtain ⟨v, hv, rfl⟩ := List.mem_map.1 h
  exact ⟨v, hv, rfl⟩
theorem leftU_diff {c : Int} {us : List RVal} (h : diffL us) : diffL (leftU c us) := by
  intro i j a b ha hb hne
  unfold leftU at ha hb
  rw [List.getElem?_map] at ha hb
  obtain ⟨a0, ha0, rfl⟩ := Option.map_eq_some_iff.1 ha
  obtain ⟨b0, hb0, rfl⟩ := Option.map_eq_some_iff.1 hb
  exact h i j a0 b0 ha0 hb0 hne

set_option maxRecDepth 100000 in
set_option maxHeartbeats 12800000 in
theorem implEndWatch_any (d cl : Int) (n1 c1 n2 c2 n3 c3 : Nat) (A1 A2 A3 : Option Addr) (ns : List NV) (fs : List Int) (rs : List RV) (w : World) (hp : ArenaL w A1 A2 A3 n1 n2 n3 ns fs rs) (hfew : n1 + n2 + n3 ≤ 1048576) :
    Calls Tryz.prog 30 #[.agg #[.int .i64 d, .slice A1 n1 c1, .slice A2 n2 c2, .slice A3 n3 c3], .int .i64 cl] w (ImPost (endR d (ns.map NV.val) fs (rs.map RV.val) cl) w) := by
  have HP := Lib.hid hp
  have HL : Hid ((ns.map NV.val).length = n1) := by show List.length _ = n1; rw [List.length_map]; exact hp.N.1
  have HL3 : Hid ((rs.map RV.val).length = n3) := by show List.length _ = n3; rw [List.length_map]; exact hp.R.1
  clear hp
  have B := Lib.hid (below_alloc w (.cells #[.int .i64 d, .slice A1 n1 c1, .slice A2 n2 c2, .slice A3 n3 c3] 26))
  have L_r := Lib.hid (Lies.new (w.alloc (.cells #[.int .i64 d, .slice A1 n1 c1, .slice A2 n2 c2, .slice A3 n3 c3] 26)) 53 #[.int .i64 0, .int .i64 0, .slice none 0 0, .slice none 0 0, .slice none 0 0, .int .i64 0])
  replace B := Lib.hid (B.out.alloc B.out.size (.cells #[.int .i64 0, .int .i64 0, .slice none 0 0, .slice none 0 0, .slice none 0 0, .int .i64 0] 53))
  have L_a := Lib.hid ((Lies.new w 26 #[.int .i64 d, .slice A1 n1 c1, .slice A2 n2 c2, .slice A3 n3 c3]).alloc (.cells #[.int .i64 0, .int .i64 0, .slice none 0 0, .slice none 0 0, .slice none 0 0, .int .i64 0] 53))
  simp only [World.size_alloc] at L_r
  have hX0 : ((w.alloc (.cells #[.int .i64 d, .slice A1 n1 c1, .slice A2 n2 c2, .slice A3 n3 c3] 26)).alloc (.cells #[.int .i64 0, .int .i64 0, .slice none 0 0, .slice none 0 0, .slice none 0 0, .int .i64 0] 53)).heap.size = w.heap.size + 1 + 1 := by simp only [World.size_alloc]
  generalize hWX : (w.alloc (.cells #[.int .i64 d, .slice A1 n1 c1, .slice A2 n2 c2, .slice A3 n3 c3] 26)).alloc (.cells #[.int .i64 0, .int .i64 0, .slice none 0 0, .slice none 0 0, .slice none 0 0, .int .i64 0] 53) = WX at L_r B L_a hX0
  go_enter Tryz.func30, Tryz.ntmps30
  have a0 : WX.cell? ⟨w.heap.size, 0, none⟩ = some (.int .i64 d) := L_a.out.cell 0
  have a1 : WX.cell? ⟨w.heap.size, 1, none⟩ = some (.slice A1 n1 c1) := L_a.out.cell 1
  have a2 : WX.cell? ⟨w.heap.size, 2, none⟩ = some (.slice A2 n2 c2) := L_a.out.cell 2
  have a3 : WX.cell? ⟨w.heap.size, 3, none⟩ = some (.slice A3 n3 c3) := L_a.out.cell 3
  subst hWX
  go_wp2_with fail
  refine (openArena_any d n1 c1 n2 c2 n3 c3 A1 A2 A3 ns fs rs _ (HP.out.kept B.out) (by omega)).mono ?_
  rintro e W1 ⟨b1, h⟩
  have sW1 := b1.size
  rw [hX0] at sW1
  replace L_r := Lib.hid (L_r.out.kept b1 L_r.out.inside)
  replace B := Lib.hid (B.out.trans (b1.mono B.out.size))
  clear b1 a0 a1 a2 a3 L_a
  rcases h with ⟨hz, rfl⟩ | ⟨hz, G, rfl, hO⟩
  · have hz1 : (arenaF d (ns.map NV.val) fs (rs.map RV.val) != 0) = true := by simpa using hz
    have HR := Lib.hid (endR_arena (c := cl) hz)
    clear hz
    have z0 : W1.cell? ⟨w.heap.size + 1, 0, none⟩ = some (.int .i64 0) := L_r.out.cell 0
    have y0 : W1.frozen? ⟨w.heap.size + 1, 0, none⟩ = false := L_r.out.thawed 0
    have z1 : W1.cell? ⟨w.heap.size + 1, 1, none⟩ = some (.int .i64 0) := L_r.out.cell 1
    have y1 : W1.frozen? ⟨w.heap.size + 1, 1, none⟩ = false := L_r.out.thawed 1
    have z2 : W1.cell? ⟨w.heap.size + 1, 2, none⟩ = some (.slice none 0 0) := L_r.out.cell 2
    have y2 : W1.frozen? ⟨w.heap.size + 1, 2, none⟩ = false := L_r.out.thawed 2
    have z3 : W1.cell? ⟨w.heap.size + 1, 3, none⟩ = some (.slice none 0 0) := L_r.out.cell 3
    have y3 : W1.frozen? ⟨w.heap.size + 1, 3, none⟩ = false := L_r.out.thawed 3
    have z4 : W1.cell? ⟨w.heap.size + 1, 4, none⟩ = some (.slice none 0 0) := L_r.out.cell 4
    have y4 : W1.frozen? ⟨w.heap.size + 1, 4, none⟩ = false := L_r.out.thawed 4
    have z5 : W1.cell? ⟨w.heap.size + 1, 5, none⟩ = some (.int .i64 0) := L_r.out.cell 5
    have y5 : W1.frozen? ⟨w.heap.size + 1, 5, none⟩ = false := L_r.out.thawed 5
    go_wp2
    refine bodyPost_ret (v := .agg #[.int .i64 (arenaF d (ns.map NV.val) fs (rs.map RV.val)), .int .i64 0, .slice none 0 0, .slice none 0 0, .slice none 0 0, .int .i64 0]) (by simp [results, Tryz.results30, go_sem, z0, z1, z2, z3, z4, z5]) rfl ?_
    with_reducible refine ImPost.no HR.out ?_
    with_reducible (repeat (first | exact B.out | refine Below.setCell ?_ ?_ _))
    all_goals (show w.heap.size ≤ w.heap.size + 1; omega)
  obtain ⟨lo, M, o, pb, cp, qs, f, hRet, hvals, hfr, hG0, hM0, hlo1, hWa, hwlo, hDm, hAp⟩ := hO
  rw [hX0] at hG0 hM0 hwlo
  obtain ⟨hdd, hnn, _, hff, hrf, htk⟩ := arenaF_zero hz
  have hn40 : n1 ≤ 40 := by rw [HL.out] at hnn; exact hnn.2
  have hn14 : 4 ≤ n1 := by rw [HL.out] at hnn; exact hnn.1
  have HZ := Lib.hid hz
  have HRT := Lib.hid (hRet.kept (below_alloc W1 (.cells #[.int .i64 cl] 2)))
  have HWA := Lib.hid hWa
  have HVL := Lib.hid hvals
  have HFRQ := Lib.hid hfr
  have HTK := Lib.hid htk
  have HFF := Lib.hid hff
  have HDM := Lib.hid hDm
  have HAP := Lib.hid hAp
  have HNE0 : Hid (∀ u ∈ rs.map RV.val, 0 < u.2.length ∧ u.2.length ≤ 4) := by
    intro u hu
    obtain ⟨i, hi⟩ := List.getElem?_of_mem hu
    obtain ⟨_, h1, h2⟩ := retF_zero (firstNZ_zero hrf i _ hi)
    exact ⟨by omega, h2⟩
  have HBD : Hid (∀ u ∈ rs.map RV.val, 0 ≤ u.1 ∧ u.1 < (n1 : Int)) := by
    intro u hu
    obtain ⟨i, hi⟩ := List.getElem?_of_mem hu
    obtain ⟨⟨h0, h1⟩, _⟩ := retF_zero (firstNZ_zero hrf i _ hi)
    rw [HL.out] at h1
    exact ⟨h0, by omega⟩
  clear hz hRet hvals hfr hWa hnn htk hff hrf hDm hAp
  have ONE := Lib.hid (one_ints W1 cl)
  replace L_r := Lib.hid (L_r.out.alloc (.cells #[.int .i64 cl] 2))
  replace B := Lib.hid (B.out.alloc B.out.size (.cells #[.int .i64 cl] 2))
  have hY0 : (W1.alloc (.cells #[.int .i64 cl] 2)).heap.size = W1.heap.size + 1 := by simp only [World.size_alloc]
  by_cases hc : 0 ≤ cl ∧ cl ≤ 3
  rotate_left
  · have HR : Hid (endR d (ns.map NV.val) fs (rs.map RV.val) cl = arNo 3) := endR_out HZ.out hc
    have HA : Hid (allIn 0 3 [cl] = false) := by show allIn _ _ _ = _; rw [allIn_two]; simpa using hc
    clear hc
    go_wp2_with fail
    refine (within_is 0 3 _ _ _ _ [cl] _ false HA.out ONE.out (by decide)).mono ?_
    rintro e w' ⟨rfl, rfl⟩
    have z0 : (W1.alloc (.cells #[.int .i64 cl] 2)).cell? ⟨w.heap.size + 1, 0, none⟩ = some (.int .i64 0) := L_r.out.cell 0
    have y0 : (W1.alloc (.cells #[.int .i64 cl] 2)).frozen? ⟨w.heap.size + 1, 0, none⟩ = false := L_r.out.thawed 0
    have z1 : (W1.alloc (.cells #[.int .i64 cl] 2)).cell? ⟨w.heap.size + 1, 1, none⟩ = some (.int .i64 0) := L_r.out.cell 1
    have y1 : (W1.alloc (.cells #[.int .i64 cl] 2)).frozen? ⟨w.heap.size + 1, 1, none⟩ = false := L_r.out.thawed 1
    have z2 : (W1.alloc (.cells #[.int .i64 cl] 2)).cell? ⟨w.heap.size + 1, 2, none⟩ = some (.slice none 0 0) := L_r.out.cell 2
    have y2 : (W1.alloc (.cells #[.int .i64 cl] 2)).frozen? ⟨w.heap.size + 1, 2, none⟩ = false := L_r.out.thawed 2
    have z3 : (W1.alloc (.cells #[.int .i64 cl] 2)).cell? ⟨w.heap.size + 1, 3, none⟩ = some (.slice none 0 0) := L_r.out.cell 3
    have y3 : (W1.alloc (.cells #[.int .i64 cl] 2)).frozen? ⟨w.heap.size + 1, 3, none⟩ = false := L_r.out.thawed 3
    have z4 : (W1.alloc (.cells #[.int .i64 cl] 2)).cell? ⟨w.heap.size + 1, 4, none⟩ = some (.slice none 0 0) := L_r.out.cell 4
    have y4 : (W1.alloc (.cells #[.int .i64 cl] 2)).frozen? ⟨w.heap.size + 1, 4, none⟩ = false := L_r.out.thawed 4
    have z5 : (W1.alloc (.cells #[.int .i64 cl] 2)).cell? ⟨w.heap.size + 1, 5, none⟩ = some (.int .i64 0) := L_r.out.cell 5
    have y5 : (W1.alloc (.cells #[.int .i64 cl] 2)).frozen? ⟨w.heap.size + 1, 5, none⟩ = false := L_r.out.thawed 5
    go_wp2
    refine bodyPost_ret (v := .agg #[.int .i64 (3), .int .i64 0, .slice none 0 0, .slice none 0 0, .slice none 0 0, .int .i64 0]) (by simp [results, Tryz.results30, go_sem, z0, z1, z2, z3, z4, z5]) rfl ?_
    with_reducible refine ImPost.no HR.out ?_
    with_reducible (repeat (first | exact B.out | refine Below.setCell ?_ ?_ _))
    all_goals (show w.heap.size ≤ w.heap.size + 1; omega)
  have HA : Hid (allIn 0 3 [cl] = true) := by show allIn _ _ _ = _; rw [allIn_two]; simpa using hc
  have HR := Lib.hid (endR_yes HZ.out hc)
  clear hc
  go_wp2_with fail
  refine (within_is 0 3 _ _ _ _ [cl] _ true HA.out ONE.out (by decide)).mono ?_
  rintro e w' ⟨rfl, rfl⟩
  go_wp2_with fail
  refine (endWatch_any d cl lo (w.heap.size + 1 + 1) G M pb cp n1 n3 n3 o qs (rs.map RV.val) f _ HRT.out HWA.out HAP.out (takenF_diff HTK.out) HDM.out HNE0.out (by omega) hn40 (by omega) (by omega) (by omega)).mono ?_
  rintro e W4 ⟨rfl, b4, qk, hR4, hW4, hK4⟩
  have sW4 := b4.size
  rw [hY0] at sW4
  replace L_r := Lib.hid (show Lies W4 (w.heap.size + 1) 53 #[.int .i64 0, .int .i64 0, .slice none 0 0, .slice none 0 0, .slice none 0 0, .int .i64 0] from (b4.block (w.heap.size + 1) (by omega)).trans L_r.out)
  replace B := Lib.hid (B.out.trans (b4.mono (by omega)))
  have HW4 := Lib.hid hW4
  have HD4 : Hid (diffL (leftU cl (rs.map RV.val))) := leftU_diff (takenF_diff HTK.out)
  have HF4 : Hid (∀ (i : Nat) (p : LV), qk[i]? = some p → p.fr = fs.contains (i : Int)) := by
    intro i p hp
    obtain ⟨p0, h1, _, _, h2⟩ := hK4.2 i p hp
    rw [h2]; exact HFRQ.out i p0 h1
  have HV4 : Hid (qk.map LV.val = ns.map NV.val) := hK4.vals.trans HVL.out
  have HR4 : Hid (Ret W4 lo G M d o pb cp n1 qk n3 n3 ((leftU cl (rs.map RV.val)).map (·.1)) f) := by show Ret _ _ _ _ _ _ _ _ _ _ _ _ _ _; rw [leftU_ids]; exact hR4
  clear b4 hR4 hW4 hK4 HWA HRT HAP ONE
  go_wp2_with fail
  refine (release_any d lo (w.heap.size + 1 + 1) G M pb cp n1 n3 n3 o _ _ fs _ _ HR4.out HW4.out HD4.out HF4.out (by omega) hn40 (by omega) hdd (by omega) (by omega) (by omega)).mono ?_
  rintro e W5 ⟨rfl, b5, o5, k5, qz, f5, hR5, hW5, hV5, hF5⟩
  have sW5 := b5.size
  replace L_r := Lib.hid (show Lies W5 (w.heap.size + 1) 53 #[.int .i64 0, .int .i64 0, .slice none 0 0, .slice none 0 0, .slice none 0 0, .int .i64 0] from (b5.block (w.heap.size + 1) (by omega)).trans L_r.out)
  replace B := Lib.hid (B.out.trans (b5.mono (by omega)))
  rw [HV4.out] at hV5
  have HR5 := Lib.hid hR5
  have HW5 := Lib.hid hW5
  have HV5 := Lib.hid hV5
  have HFL : Hid (freeL 0 qz = relS (leftU cl (rs.map RV.val)) fs) := by
    show _ = _
    obtain ⟨hal, hri⟩ := freeF_rises HFF.out
    rw [HL.out] at hal
    refine freeL_is (relS_rises hri HD4.out (fun u hu => ?_)) (fun x hx => ?_) (fun i p hp => ?_)
    · obtain ⟨v, hv, hvu⟩ := leftU_mem hu
      rw [← hvu]
      exact takenF_free HTK.out (List.mem_map.2 ⟨v, hv, rfl⟩)
    · have hlz : qz.length = n1 := HR5.out.G'.R.l
      rcases relS_mem.1 hx with hx | ⟨u, hu, hu1, _⟩
      · have := allIn_mem hal hx; omega
      · obtain ⟨v, hv, hvu⟩ := leftU_mem hu
        have := HBD.out v hv
        omega
    · rw [hF5 i p hp]; simp
  have HNE : Hid (∀ u ∈ relU (leftU cl (rs.map RV.val)), 0 < u.2.length ∧ u.2.length ≤ 4) := by
    intro u hu
    obtain ⟨hm, hne⟩ := List.mem_filter.1 hu
    have h0 : 0 < u.2.length := by
      cases h2 : u.2 with
      | nil => rw [h2] at hne; exact absurd hne (by decide)
      | cons a t => simp
    refine ⟨h0, ?_⟩
    obtain ⟨v, hv, hvu⟩ := List.mem_map.1 hm
    have h1 := (HNE0.out v hv).2
    have h2 : u.2.length ≤ v.2.length := by rw [← hvu]; exact List.length_filter_le _ _
    omega
  have hk5 : k5 ≤ 1048576 := by
    have h1 := HR5.out.S.1
    have h2 : (relU (leftU cl (rs.map RV.val))).length ≤ (leftU cl (rs.map RV.val)).length := List.length_filter_le _ _
    have h3 : (leftU cl (rs.map RV.val)).length = n3 := by unfold leftU; rw [List.length_map]; exact HL3.out
    simp only [List.length_map, Nat.mul_one] at h1
    omega
  clear b5 hR5 hW5 hV5 hF5 HR4 HW4 HD4 HF4 HV4
  go_wp2_with fail
  refine (arena_any lo G M pb cp n1 n3 k5 d o5 qz _ f5 (relU (leftU cl (rs.map RV.val))) _ HR5.out HW5.out rfl HNE.out hn40 hk5).mono ?_
  rintro e W6 ⟨A1', c1', kf, A2', c2', A3', c3', qn, rn, rfl, hAn, hvn, hun, b6⟩
  rw [HFL.out] at hAn
  have sW6 := b6.size
  replace L_r := Lib.hid (L_r.out.kept b6 L_r.out.inside)
  replace B := Lib.hid (B.out.trans (b6.mono B.out.size))
  have HAN := Lib.hid hAn
  have HVA : Hid (qn.map NV.val = relV (leftU cl (rs.map RV.val)) (ns.map NV.val)) := hvn.trans HV5.out
  have HUA := Lib.hid hun
  clear hAn hvn hun b6
  have z0 : W6.cell? ⟨w.heap.size + 1, 0, none⟩ = some (.int .i64 0) := L_r.out.cell 0
  have y0 : W6.frozen? ⟨w.heap.size + 1, 0, none⟩ = false := L_r.out.thawed 0
  have z1 : W6.cell? ⟨w.heap.size + 1, 1, none⟩ = some (.int .i64 0) := L_r.out.cell 1
  have y1 : W6.frozen? ⟨w.heap.size + 1, 1, none⟩ = false := L_r.out.thawed 1
  have z2 : W6.cell? ⟨w.heap.size + 1, 2, none⟩ = some (.slice none 0 0) := L_r.out.cell 2
  have y2 : W6.frozen? ⟨w.heap.size + 1, 2, none⟩ = false := L_r.out.thawed 2
  have z3 : W6.cell? ⟨w.heap.size + 1, 3, none⟩ = some (.slice none 0 0) := L_r.out.cell 3
  have y3 : W6.frozen? ⟨w.heap.size + 1, 3, none⟩ = false := L_r.out.thawed 3
  have z4 : W6.cell? ⟨w.heap.size + 1, 4, none⟩ = some (.slice none 0 0) := L_r.out.cell 4
  have y4 : W6.frozen? ⟨w.heap.size + 1, 4, none⟩ = false := L_r.out.thawed 4
  have z5 : W6.cell? ⟨w.heap.size + 1, 5, none⟩ = some (.int .i64 0) := L_r.out.cell 5
  have y5 : W6.frozen? ⟨w.heap.size + 1, 5, none⟩ = false := L_r.out.thawed 5
  go_wp2
  refine bodyPost_ret (v := .agg #[.int .i64 0, .int .i64 d, .slice A1' n1 c1', .slice A2' kf c2', .slice A3' k5 c3', .int .i64 0]) (by simp [results, Tryz.results30, go_sem, z0, z1, z2, z3, z4, z5]) rfl ?_
  with_reducible refine ImPost.yes HR.out ?_ HVA.out HUA.out ?_
  · refine AnsAr.lower (lo := W5.heap.size) ?_ (by omega)
    with_reducible (repeat (first | exact HAN.out | refine AnsAr.far ?_ ?_ _))
    all_goals (show w.heap.size + 1 < _; omega)
  · with_reducible (repeat (first | exact B.out | refine Below.setCell ?_ ?_ _))
    all_goals (show w.heap.size ≤ w.heap.size + 1; omega)

end Go.Proofs.YtpgoildfjkokiaaGreat

/- Copies that the model makes: the walks of spec.l1Ints, l3Copies and l4Copy. -/
namespace Go.Proofs.YtpgoildfjkokiaaGreat
open Go.RowKit

set_option maxHeartbeats 1600000 in
theorem l1Ints_all (n c lo : Nat) (A : Option Addr) (xs : List Int) (w : World) (hx : Ints w lo A n xs) (hn : n ≤ 1048576) :
    Calls Tryz.prog 96 #[.slice A n c] w fun e w' => ∃ A' c', e = .returned (.slice A' n c') ∧ w'.ownsRow w.heap.size 2 1 (.slice A' n c') n (xs.map (Value.int .i64)) ∧ Below w.heap.size w w' := by
  obtain ⟨i0, hi0, hz0, hz1, hz2⟩ := info_parts'
  have B := Lib.hid (below_alloc w (.cells #[] 2))
  have hown : Hid ((w.alloc (.cells #[] 2)).ownsRow w.heap.size 2 1 (.slice (some ⟨w.heap.size, 0, none⟩) 0 0) 0 []) := ⟨rfl, Or.inr ⟨w.heap.size, 0, #[], rfl, Nat.le_refl _, heap_alloc_new w _, Nat.le_refl _, Nat.zero_le _, rfl, rfl⟩⟩
  have IP := Lib.hid (And.intro hi0 (And.intro hz0 (And.intro hz1 hz2)))
  clear hi0 hz0 hz1 hz2
  rcases Nat.eq_zero_or_pos n with rfl | h0
  · obtain rfl : xs = [] := List.eq_nil_of_length_eq_zero hx.1
    clear hx
    rcases A with _ | A
    all_goals
      go_enter Tryz.func96, Tryz.ntmps96
      go_wp2
      go_ret
      exact ⟨some ⟨w.heap.size, 0, none⟩, 0, by simp, hown.out, B.out⟩
  obtain ⟨hl, hr⟩ := hx
  obtain ⟨b, o, rfl, _, hb, hc⟩ := hr h0
  have hnews : Hid (∀ (j : Nat) (u : Value), (xs.map (Value.int .i64))[j]? = some u → (w.alloc (.cells #[] 2)).cell? ((⟨b, o, none⟩ : Addr).add j) = some u) := by
    intro j u hj
    rw [add_none, B.out.cell (p := ⟨b, o + j, none⟩) hb]
    rw [List.getElem?_map] at hj
    obtain ⟨x, hx, rfl⟩ := Option.map_eq_some_iff.1 hj
    exact hc j x hx
  have HL := Lib.hid hl
  clear hr hc hl
  go_enter Tryz.func96, Tryz.ntmps96
  go_wp2_with (with_reducible refine wpList_append_lies _ rfl (.tmp 3) (.tmp 4) 23 rfl w.heap.size 2 i0 (.int .i64 0) 1 8 Tryz.underlying23 IP.out.1 IP.out.2.1 IP.out.2.2.1 IP.out.2.2.2 rfl (by omega) (.slice (some ⟨w.heap.size, 0, none⟩) 0 0) 0 [] rfl hown.out ⟨b, o, none⟩ n c (xs.map (Value.int .i64)) rfl ?q1 hnews.out ?q2 h0 ?q3 ?q4 ?q5 (w.heap.size + 1) ?q6 ?_)
  case q1 => simp [HL.out]
  case q2 => intro u hu; obtain ⟨x, _, rfl⟩ := List.mem_map.1 hu; rfl
  case q3 => unfold maxLen; omega
  case q4 => omega
  case q5 => simp
  case q6 => simp
  intro g cap w' ho hg hat hlt
  have HO : Hid (w'.ownsRow w.heap.size 2 1 (.slice (some ⟨g, 0, none⟩) n cap) n (xs.map (Value.int .i64))) := by show World.ownsRow _ _ _ _ _ _ _; simpa using ho
  have HB := Lib.hid (below_grown' B.out hg (fun r e => by simp [Value.ownBlock] at e; omega) B.out.size)
  clear ho hg hat
  go_wp2
  go_ret
  exact ⟨some ⟨g, 0, none⟩, cap, by simp, HO.out, HB.out⟩

section
variable {w w' : World} {base : Nat} {q : NV}
theorem Rows4.inB (h : Rows4 w base q.n1 q.es (.slice q.A1 q.n1 q.c1)) : ∀ b ∈ nodeB q, base ≤ b ∧ b < w.heap.size := by
  intro b hb
  rcases List.mem_append.1 hb with hb | hb
  · exact ownsRow_block2 h.S b (by simpa using hb)
  · obtain ⟨e, he, hm⟩ := List.mem_flatMap.1 hb
    obtain ⟨g1, g2, a1, a2, a3, a4, a5, a6, _⟩ := h.R e he
    rw [a1, a2] at hm
    simp only [blk, List.mem_cons, List.not_mem_nil, or_false] at hm
    rcases hm with rfl | rfl
    · exact ⟨a3, a5⟩
    · exact ⟨a4, a6⟩
theorem Rows4.others (h : Rows4 w base q.n1 q.es (.slice q.A1 q.n1 q.c1)) (hs : w.heap.size ≤ w'.heap.size) (hk : ∀ b ∈ nodeB q, w'.heap[b]? = w.heap[b]?) : Rows4 w' base q.n1 q.es (.slice q.A1 q.n1 q.c1) := by
  refine ⟨ownsRow_others h.S (fun b e => hk b (List.mem_append_left _ (by rw [e]; simp))), fun e he => ?_⟩
  obtain ⟨g1, g2, a1, a2, a3, a4, a5, a6, a7, a8, a9, a10, i1, i2⟩ := h.R e he
  have hm := coords_mem he
  rw [a1, a2] at hm
  rw [a1] at i1
  rw [a2] at i2
  refine ⟨g1, g2, a1, a2, a3, a4, by omega, by omega, a7, a8, a9, a10, ?_, ?_⟩
  · rw [a1]; exact i1.block hs (hk g1 (List.mem_append_right _ hm.1))
  · rw [a2]; exact i2.block hs (hk g2 (List.mem_append_right _ hm.2))
theorem Rows4.kept2 (h : Rows4 w base q.n1 q.es (.slice q.A1 q.n1 q.c1)) (hb : Below w.heap.size w w') : Rows4 w' base q.n1 q.es (.slice q.A1 q.n1 q.c1) := h.others hb.size fun b hm => hb.block b (h.inB b hm).2
theorem Rows4.lower2 {base' : Nat} (h : Rows4 w base q.n1 q.es (.slice q.A1 q.n1 q.c1)) (hl : base' ≤ base) : Rows4 w base' q.n1 q.es (.slice q.A1 q.n1 q.c1) := by
  refine ⟨ownsRow_lower h.S hl, fun e he => ?_⟩
  obtain ⟨g1, g2, a1, a2, a3, a4, r⟩ := h.R e he
  exact ⟨g1, g2, a1, a2, by omega, by omega, r⟩
end

/-- A row of nodes of the call's own, each with a row of entries of its own. -/
structure NodesS (w : World) (base : Nat) (v : Value) (n : Nat) (qs : List NV) : Prop where
  S : w.ownsRow base 42 4 v n (qs.flatMap NV.cells)
  Q : ∀ q ∈ qs, Rows4 w base q.n1 q.es (.slice q.A1 q.n1 q.c1) ∧ q.n1 ≤ 6
  X : ∀ b, v.ownBlock = some b → b ∉ nodesB qs
section
variable {w w' w1 : World} {base n : Nat} {v : Value} {qs : List NV}
theorem NodesS.inB (h : NodesS w base v n qs) : ∀ b ∈ nodesB qs, base ≤ b ∧ b < w.heap.size := by
  intro b hb
  obtain ⟨q, hq, hb⟩ := List.mem_flatMap.1 hb
  exact (h.Q q hq).1.inB b hb
theorem NodesS.others (h : NodesS w base v n qs) (hs : w.heap.size ≤ w'.heap.size) (hv : ∀ b, v.ownBlock = some b → w'.heap[b]? = w.heap[b]?) (hk : ∀ b ∈ nodesB qs, w'.heap[b]? = w.heap[b]?) : NodesS w' base v n qs :=
  ⟨ownsRow_others h.S hv, fun q hq => ⟨(h.Q q hq).1.others hs (fun b hb => hk b (List.mem_flatMap.2 ⟨q, hq, hb⟩)), (h.Q q hq).2⟩, h.X⟩
theorem NodesS.kept (h : NodesS w base v n qs) (hb : Below w.heap.size w w') : NodesS w' base v n qs :=
  h.others hb.size (fun b e => hb.block b (ownsRow_block2 h.S b e).2) (fun b hb' => hb.block b (h.inB b hb').2)
theorem NodesS.far (h : NodesS w base v n qs) {a : Addr} (ha : a.block < base) (u : Value) : NodesS (w.setCell a u) base v n qs :=
  h.others (Nat.le_of_eq (size_of_setCell _ _ _).symm) (fun b e => heap_setCell_other w a b u (by have := (ownsRow_block2 h.S b e).1; omega)) (fun b hb' => heap_setCell_other w a b u (by have := (h.inB b hb').1; omega))
theorem NodesS.lower {base' : Nat} (h : NodesS w base v n qs) (hl : base' ≤ base) : NodesS w base' v n qs := ⟨ownsRow_lower h.S hl, fun q hq => ⟨(h.Q q hq).1.lower2 hl, (h.Q q hq).2⟩, h.X⟩
theorem NodesS.len (h : NodesS w base v n qs) : qs.length = n := by have := h.S.1; rw [nvCells_len] at this; omega
theorem NodesS.nodes {A : Option Addr} {c : Nat} (h : NodesS w base (.slice A n c) n qs) : NodesL w A n qs := by
  refine ⟨h.len, fun h0 => ?_, fun p hp => ⟨?_, Nat.le_trans (h.Q p hp).2 (by decide)⟩⟩
  · obtain ⟨g, rfl, _, g1, g2, g3, g4⟩ := owned_at h.S h0
    refine ⟨g, 0, rfl, g2, fun k p hk => ?_⟩
    simp only [Nat.zero_add]
    exact ⟨g3 _ _ (nvCells_at (j := 0) hk rfl), g3 _ _ (nvCells_at (j := 1) hk rfl), g3 _ _ (nvCells_at (j := 2) hk rfl), g3 _ _ (nvCells_at (j := 3) hk rfl)⟩
  · obtain ⟨A2, c2, e2, h2⟩ := (h.Q p hp).1.entries
    injection e2 with e2 e3 e4
    rw [e2]; exact h2
/-- One node more, whose entries lie in blocks that are new since w. -/
theorem NodesS.put {W : World} {q : NV} {g cap : Nat} (h : NodesS w base v n qs) (hb : Below w.heap.size w W) (hq : Rows4 W w.heap.size q.n1 q.es (.slice q.A1 q.n1 q.c1)) (hq6 : q.n1 ≤ 6) (hlo : base ≤ w.heap.size)
    (ho : w1.ownsRow base 42 4 (.slice (some ⟨g, 0, none⟩) (n + 1) cap) (n + 1) (qs.flatMap NV.cells ++ NV.cells q)) (hw : W.grownBy w1 v.ownBlock) (hat : v.ownBlock = some g ∨ W.heap.size ≤ g) :
    NodesS w1 base (.slice (some ⟨g, 0, none⟩) (n + 1) cap) (n + 1) (qs ++ [q]) := by
  have h' := h.kept hb
  have old := h.inB
  have new := hq.inB
  have vold : ∀ b, v.ownBlock = some b → b < w.heap.size := fun b e => (ownsRow_block2 h.S b e).2
  have nb : nodesB (qs ++ [q]) = nodesB qs ++ nodeB q := by simp [nodesB]
  have vno : ∀ b, v.ownBlock = some b → b ∉ nodesB (qs ++ [q]) := by
    intro b e hm
    rw [nb] at hm
    rcases List.mem_append.1 hm with hm | hm
    · exact h.X b e hm
    · have := (new b hm).1; have := vold b e; omega
  have keep : ∀ b ∈ nodesB (qs ++ [q]), w1.heap[b]? = W.heap[b]? := by
    intro b hm
    refine hw.block b ?_ (fun e => vno b e.symm hm)
    rw [nb] at hm
    rcases List.mem_append.1 hm with hm | hm
    · exact Nat.lt_of_lt_of_le (old b hm).2 hb.size
    · exact (new b hm).2
  refine ⟨by rw [List.flatMap_append]; simpa using ho, fun p hp => ?_, fun b e hm => ?_⟩
  · rcases List.mem_append.1 hp with hp' | hp'
    · exact ⟨(h'.Q p hp').1.others hw.size (fun b hb' => keep b (List.mem_flatMap.2 ⟨p, hp, hb'⟩)), (h.Q p hp').2⟩
    · simp only [List.mem_singleton] at hp'; subst hp'
      exact ⟨(hq.lower2 hlo).others hw.size (fun b hb' => keep b (List.mem_flatMap.2 ⟨p, hp, hb'⟩)), hq6⟩
  · have e' : g = b := by simpa [Value.ownBlock] using e
    subst e'
    rcases hat with hat | hat
    · exact vno g hat hm
    · rw [nb] at hm
      rcases List.mem_append.1 hm with hm | hm
      · have := (old g hm).2; have := hb.size; omega
      · have := (new g hm).2; omega
end

set_option maxRecDepth 100000 in
set_option maxHeartbeats 6400000 in
theorem l3Copies_any (n c dd : Nat) (A : Option Addr) (ns : List NV) (w : World) (hp : NodesL w A n ns) (hn : n ≤ 1048576) (hd : 0 < dd) (hd3 : dd ≤ 3) (hl : ∀ q ∈ ns, q.n1 ≤ 6 ∧ LensE dd (q.es.map EV.val)) :
    Calls Tryz.prog 95 #[.slice A n c] w fun e w' => ∃ A' c' qs, e = .returned (.slice A' n c') ∧ NodesS w' w.heap.size (.slice A' n c') n qs ∧ qs.map NV.val = ns.map NV.val ∧ Below w.heap.size w w' := by
  have HP := Lib.hid hp
  have HE := Lib.hid hl
  have HL : Hid (ns.length = n) := hp.1
  clear hp hl
  obtain ⟨i0, hi0, hz0, hz1, hz2⟩ := info_node6
  have IP := Lib.hid (And.intro hi0 (And.intro hz0 (And.intro hz1 hz2)))
  clear hi0 hz0 hz1 hz2
  have ST : Hid (NodesS (w.alloc (.cells #[] 42)) w.heap.size (.slice (some ⟨w.heap.size, 0, none⟩) 0 0) 0 []) := ⟨⟨rfl, Or.inr ⟨w.heap.size, 0, #[], rfl, Nat.le_refl _, heap_alloc_new w _, Nat.le_refl _, Nat.zero_le _, rfl, rfl⟩⟩, fun q hq => by simp at hq, fun b _ hm => by simp [nodesB] at hm⟩
  have B0 := Lib.hid (below_alloc w (.cells #[] 42))
  go_enter Tryz.func95, Tryz.ntmps95
  go_wp2
  go_loopw [3, 4] (fun vv i wr => ∃ (k : Nat) (v : Value) (qs : List NV), k ≤ n ∧ i = .int .i64 k ∧ v = vv ∧ Hid (NodesS wr w.heap.size v k qs) ∧ Hid (Below w.heap.size w wr) ∧ Hid (qs.map NV.val = (ns.take k).map NV.val)) (fun _ i _ => n - (intOf i).toNat)
  case atStart => exact ⟨0, _, [], Nat.zero_le _, rfl, rfl, ST, B0, rfl⟩
  case round =>
    obtain ⟨k, v, qs, hk, rfl, rfl, hU, hB, hV⟩ := hrel
    clear ST B0
    by_cases hlt : k < n
    · obtain ⟨b, o, lv, nn, rt, A1, n1, c1, es, rfl, hb, d0, d1, d2, d3, hx, i1, m1⟩ := HP.out.cellAt hlt
      have hq6 := (HE.out _ (List.mem_of_getElem? hx.out)).1
      have HLE := Lib.hid (HE.out _ (List.mem_of_getElem? hx.out)).2
      simp only at hq6 HLE
      have e0 : wr.cell? ⟨b, o + k * 4, none⟩ = some (.int .i64 lv) := (hB.out.cell (p := ⟨b, o + k * 4, none⟩) hb).trans d0
      have e1 : wr.cell? ⟨b, o + k * 4 + 1, none⟩ = some (.int .i64 nn) := (hB.out.cell (p := ⟨b, o + k * 4 + 1, none⟩) hb).trans d1
      have e2 : wr.cell? ⟨b, o + k * 4 + 2, none⟩ = some (.int .i64 rt) := (hB.out.cell (p := ⟨b, o + k * 4 + 2, none⟩) hb).trans d2
      have e3 : wr.cell? ⟨b, o + k * 4 + 3, none⟩ = some (.slice A1 n1 c1) := (hB.out.cell (p := ⟨b, o + k * 4 + 3, none⟩) hb).trans d3
      have kb := Nat.lt_of_lt_of_le hb hB.out.size
      have HX := Lib.hid (show ns[k]? = some ⟨lv, nn, rt, A1, n1, c1, es⟩ from hx.out)
      clear d0 d1 d2 d3 hx
      go_wp2_with fail
      refine (l3CopyAt_any lv nn rt b (o + k * 4) n1 c1 dd A1 es _ kb e0 e1 e2 e3 (i1.out.kept hB.out) hq6 hd hd3 HLE.out).mono ?_
      rintro e W1 ⟨A2, c2, qs2, rfl, hR4, hvs, b1⟩
      have hR5 : Hid (Rows4 W1 wr.heap.size n1 qs2 (.slice A2 n1 c2)) := Rows4.lower2 (q := ⟨lv, nn, rt, A2, n1, c2, qs2⟩) hR4 (by omega)
      have HVS := Lib.hid hvs
      have bA := Lib.hid (b1.alloc b1.size (.cells #[.int .i64 lv, .int .i64 nn, .int .i64 rt, .slice A2 n1 c2] 42))
      have hR6 : Hid (Rows4 (W1.alloc (.cells #[.int .i64 lv, .int .i64 nn, .int .i64 rt, .slice A2 n1 c2] 42)) wr.heap.size n1 qs2 (.slice A2 n1 c2)) := Rows4.kept2 (q := ⟨lv, nn, rt, A2, n1, c2, qs2⟩) hR5.out (below_alloc _ _)
      have HS := Lib.hid (ownsRow_below hU.out.S bA.out)
      have NEWS := Lib.hid (World.news_of_block (Lies.new W1 42 #[.int .i64 lv, .int .i64 nn, .int .i64 rt, .slice A2 n1 c2]))
      have wsz : w.heap.size ≤ wr.heap.size := hB.out.size
      have wsz1 : wr.heap.size ≤ W1.heap.size := b1.size
      have HV' : Hid ((qs ++ [(⟨lv, nn, rt, A2, n1, c2, qs2⟩ : NV)]).map NV.val = (ns.take (k + 1)).map NV.val) := by
        show _ = _
        rw [List.map_append, hV.out, List.take_add_one, HX.out, List.map_append]
        simp only [Option.toList, List.map_cons, List.map_nil, NV.val, HVS.out]
      clear b1 hR4 hvs e0 e1 e2 e3 hV HX HLE
      go_wp2_with (with_reducible refine wpList_append_lies _ rfl (.tmp 12) (.tmp 17) 22 rfl w.heap.size 42 i0 (.agg #[.int .i64 0, .int .i64 0, .int .i64 0, .slice none 0 0]) 4 48 Tryz.underlying22 IP.out.1 IP.out.2.1 IP.out.2.2.1 IP.out.2.2.2 rfl (by omega) v k (qs.flatMap NV.cells) rfl HS.out ⟨W1.heap.size, 0, none⟩ 1 1 [.int .i64 lv, .int .i64 nn, .int .i64 rt, .slice A2 n1 c2] rfl rfl NEWS.out ?q2 (by omega) ?q3 ?q4 ?q5 (W1.heap.size + 1) ?q6 ?_)
      case q2 => simp [Value.oneCell']
      case q3 => unfold maxLen; omega
      case q4 => omega
      case q5 => simp only [World.size_alloc]; omega
      case q6 => simp only [World.size_alloc]
      intro gg cap w1 ho hw hat hlt1
      have hbk := ownsRow_block2 HS.out
      have HU2 : Hid (NodesS w1 w.heap.size (.slice (some ⟨gg, 0, none⟩) (k + 1) cap) (k + 1) (qs ++ [⟨lv, nn, rt, A2, n1, c2, qs2⟩])) :=
        NodesS.put (q := ⟨lv, nn, rt, A2, n1, c2, qs2⟩) hU.out bA.out hR6.out hq6 wsz ho hw (hat.imp id fun h => by simp only [World.size_alloc] at h ⊢; omega)
      have HB2 : Hid (Below w.heap.size w w1) := below_grown2 (hB.out.trans (bA.out.mono wsz)) hw (fun r e => (hbk r e).1) (by simp only [World.size_alloc]; omega)
      clear ho hw hat hlt1 hbk HS hR5 hR6 bA hB hU NEWS
      go_wp2
      go_roundw
      case rel => exact ⟨k + 1, _, _, by omega, by go_num, rfl, HU2, HB2, HV'⟩
      case measure => simp [intOf]; omega
    · have hkn : k = n := by omega
      subst hkn
      obtain ⟨A', c', hv⟩ : ∃ A c, v = .slice A k c := by
        rcases hU.out.S.2 with ⟨h1, h2⟩ | ⟨g, cap, cur, e1, _⟩
        · exact ⟨none, 0, by rw [h1, h2]⟩
        · exact ⟨_, _, e1⟩
      subst hv
      have HV2 : Hid (qs.map NV.val = ns.map NV.val) := by
        have := hV.out
        rwa [List.take_of_length_le (by rw [HL.out]; exact Nat.le_refl _)] at this
      go_wp2
      go_ret
      exact ⟨A', c', qs, by simp, hU.out, HV2.out, hB.out⟩

end Go.Proofs.YtpgoildfjkokiaaGreat
