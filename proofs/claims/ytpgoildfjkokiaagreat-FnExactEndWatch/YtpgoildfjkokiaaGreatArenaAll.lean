/- The walk of impl.ground's arena: what is told from an arena that is worked at. -/
import Derived.Test.YtpgoildfjkokiaaGreatAnswers
import Derived.Maps.Own
namespace Go.Proofs.YtpgoildfjkokiaaGreat
open Go.RowKit Go.Maps

theorem PMap.look0 {w : World} {M k : Nat} {f : Int → Option Nat} (h : PMap w M k f) {id : Int} (hid : (Lit.int .i64 id).wf = true) {g : Nat} (hf : f id = some g) : (Instr.lookup 107 (.map (some M)) (.int .i64 id) false).run Tryz.prog w = .ok (.pointer (some ⟨g, 0, none⟩)) w := by
  obtain ⟨D, h1, h2, h3⟩ := h
  obtain ⟨v, ps, hrun, hv⟩ := h1.lookup key_law Tryz.underlying107 (zero_ptr w) (zd := .nil) (zp := []) rfl (keyOf_int_mk Tryz.underlying2 hid)
  rw [(h3 id).2, hf] at hv
  rw [hrun, ptrElem_lit hv]
theorem info_ret : ∃ i, Tryz.prog.info? 123 = some i ∧ i.zero = some (.agg #[.int .i64 0, .slice none 0 0]) ∧ i.size = 2 ∧ i.bytes = 32 := by
  have h : (Tryz.prog.info? 123).map (fun i => (i.zero, i.size, i.bytes)) = some (some (.agg #[.int .i64 0, .slice none 0 0]), 2, 32) := by kernel_rfl
  obtain ⟨i, hi, h⟩ := Option.map_eq_some_iff.1 h
  simp only [Prod.mk.injEq] at h
  exact ⟨i, hi, h.1, h.2.1, h.2.2⟩

set_option maxRecDepth 100000 in
set_option maxHeartbeats 1600000 in
theorem cloneInts_own (n c lo : Nat) (A : Option Addr) (xs : List Int) (w : World) (hp : Ints w lo A n xs) (h0 : 0 < n) (hn : n ≤ 1048576) :
    Calls Tryz.prog 99 #[.slice A n c] w fun e w' => ∃ g cap, e = .returned (.slice (some ⟨g, 0, none⟩) n cap) ∧ w'.ownsRow w.heap.size 2 1 (.slice (some ⟨g, 0, none⟩) n cap) n (xs.map (Value.int .i64)) ∧ Below w.heap.size w w' := by
  have HP := Lib.hid hp
  obtain ⟨hl, hr⟩ := hp
  obtain ⟨b, o, rfl, hlo, hb, hc⟩ := hr h0
  obtain ⟨i0, hi0, hz0, hz1, hz2⟩ := info_parts_i64
  have B := Lib.hid (below_alloc w (.cells #[] 2))
  have hown : Hid ((w.alloc (.cells #[] 2)).ownsRow w.heap.size 2 1 (.slice (some ⟨w.heap.size, 0, none⟩) 0 0) 0 []) := ⟨rfl, Or.inr ⟨w.heap.size, 0, #[], rfl, Nat.le_refl _, heap_alloc_new w _, Nat.le_refl _, Nat.zero_le _, rfl, rfl⟩⟩
  have hnews : Hid (∀ (j : Nat) (u : Value), (xs.map (Value.int .i64))[j]? = some u → (w.alloc (.cells #[] 2)).cell? ((⟨b, o, none⟩ : Addr).add j) = some u) := by
    intro j u hj
    rw [add_none, B.out.cell (p := ⟨b, o + j, none⟩) hb]
    rw [List.getElem?_map] at hj
    obtain ⟨x, hx, rfl⟩ := Option.map_eq_some_iff.1 hj
    exact hc j x hx
  have HL := Lib.hid hl
  have IP := Lib.hid (And.intro hi0 (And.intro hz0 (And.intro hz1 hz2)))
  clear hr hc hl hi0 hz0 hz1 hz2
  have heq := fun w => Lib.run_eql_slice_nil (P := Tryz.prog) w 23 2 (some ⟨b, o, none⟩) n c 0 0 Tryz.underlying23
  simp only [Option.isNone_some] at heq
  go_enter Tryz.func99, Tryz.ntmps99
  go_wp2_with (with_reducible refine wpList_append_lies _ rfl (.tmp 5) (.tmp 6) 23 rfl w.heap.size 2 i0 (.int .i64 0) 1 8 Tryz.underlying23 IP.out.1 IP.out.2.1 IP.out.2.2.1 IP.out.2.2.2 rfl (by omega) (.slice (some ⟨w.heap.size, 0, none⟩) 0 0) 0 [] rfl hown.out ⟨b, o, none⟩ n c (xs.map (Value.int .i64)) rfl ?q1 hnews.out ?q2 h0 ?q3 ?q4 ?q5 (w.heap.size + 1) ?q6 ?_)
  case q1 => rw [List.length_map, HL.out, Nat.mul_one]
  case q2 => intro u hu; obtain ⟨x, _, rfl⟩ := List.mem_map.1 hu; rfl
  case q3 => unfold maxLen; omega
  case q4 => omega
  case q5 => simp
  case q6 => simp
  intro g cap w' ho hg hat hlt
  have HO : Hid (w'.ownsRow w.heap.size 2 1 (.slice (some ⟨g, 0, none⟩) n cap) n (xs.map (Value.int .i64))) := by show World.ownsRow _ _ _ _ _ _ _; simpa using ho
  have HB := Lib.hid (below_grown2 B.out hg (fun r e => by simp [Value.ownBlock] at e; omega) B.out.size)
  clear ho hg hat
  go_wp2
  go_ret
  exact ⟨g, cap, by simp, HO.out, HB.out⟩

theorem ownsRow_sliceA {w : World} {base n size : Nat} {e : TypeId} {v : Value} {xs : List Value} (h : w.ownsRow base e size v n xs) : ∃ A c, v = .slice A n c := by
  rcases h.2 with ⟨h1, h2⟩ | ⟨g, cap, cur, e1, _⟩
  · exact ⟨none, 0, by rw [h1, h2]⟩
  · exact ⟨_, _, e1⟩

set_option maxRecDepth 100000 in
set_option maxHeartbeats 12800000 in
theorem arena_any (lo G M pb cp n km k3 : Nat) (d : Int) (o : Value) (ps : List LV) (ids : List Int) (f : Int → Option Nat) (us : List RVal) (w : World) (h : Ret w lo G M d o pb cp n ps km k3 ids f) (hW : Watched ps f us) (hids : us.map (·.1) = ids) (hne : ∀ u ∈ us, 0 < u.2.length ∧ u.2.length ≤ 4) (hn : n ≤ 40) (hk3 : k3 ≤ 1048576) :
    Calls Tryz.prog 66 #[.pointer (some ⟨G, 0, none⟩)] w fun e w' => ∃ (A1 : Option Addr) (c1 kf : Nat) (A2 : Option Addr) (c2 : Nat) (A3 : Option Addr) (c3 : Nat) (qs : List NV) (rs : List RV), e = .returned (.agg #[.int .i64 d, .slice A1 n c1, .slice A2 kf c2, .slice A3 k3 c3]) ∧ AnsAr w' w.heap.size A1 n c1 A2 kf c2 A3 k3 c3 qs (freeL 0 ps) rs ∧ qs.map NV.val = ps.map LV.val ∧ rs.map RV.val = us ∧ Below w.heap.size w w' := by
  have hlen := h.G'.R.l
  have hpb := h.G'.R.i.2
  obtain ⟨oA, oC, rfl, hoI⟩ := ints_of_owns h.S
  have hL := h.G'.L
  have hP := h.G'.P.P
  have hR := h.G'.R.c
  have HPM := Lib.hid h.M'
  have HOI := Lib.hid (hoI.lower (Nat.zero_le _))
  have HWT := Lib.hid hW
  have HID := Lib.hid hids
  have HNE := Lib.hid hne
  have hM := h.M'.inside
  clear h hoI hW hids hne
  have HGL := Lib.hid hL
  have HGP := Lib.hid hP
  have HGR := Lib.hid hR
  have hG := hL.inside
  clear hL hP hR
  obtain ⟨i0, hi0, hz0, hz1, hz2⟩ := info_node6
  have IP := Lib.hid (And.intro hi0 (And.intro hz0 (And.intro hz1 hz2)))
  obtain ⟨j0, hj0, hy0, hy1, hy2⟩ := info_parts_i64
  have JP := Lib.hid (And.intro hj0 (And.intro hy0 (And.intro hy1 hy2)))
  clear hi0 hz0 hz1 hz2 hj0 hy0 hy1 hy2
  have B0 := below_alloc w (.cells #[.int .i64 0, .slice none 0 0, .slice none 0 0, .slice none 0 0] 26)
  have B1 := B0.alloc B0.size (.cells #[.int .i64 d, .slice none 0 0, .slice none 0 0, .slice none 0 0] 26)
  have a0 : (w.alloc (.cells #[.int .i64 0, .slice none 0 0, .slice none 0 0, .slice none 0 0] 26)).cell? ⟨G, 0, none⟩ = some (.int .i64 d) := (B0.cell (p := ⟨G, 0, none⟩) hG).trans (HGL.out.cell 0)
  have a1 : ((w.alloc (.cells #[.int .i64 0, .slice none 0 0, .slice none 0 0, .slice none 0 0] 26)).alloc (.cells #[.int .i64 d, .slice none 0 0, .slice none 0 0, .slice none 0 0] 26)).cell? ⟨G, 1, none⟩ = some (.slice (some ⟨pb, 0, none⟩) n cp) := (B1.cell (p := ⟨G, 1, none⟩) hG).trans (HGL.out.cell 1)
  clear B0 B1
  have ST := Lib.hid (ArW.start w d)
  go_enter Tryz.func66, Tryz.ntmps66
  go_wp2
  clear a0 a1
  go_loopw [18] (fun i wr => ∃ (k kf : Nat) (vN vF : Value) (qs : List NV), k ≤ n ∧ kf ≤ k ∧ i = .int .i64 (k : Int) ∧ Hid (ArW w wr d k kf vN vF qs (freeL 0 (ps.take k))) ∧ Hid (qs.map NV.val = (ps.take k).map LV.val)) (fun i _ => n - (intOf i).toNat)
  case atStart => exact ⟨0, 0, .slice none 0 0, .slice none 0 0, [], Nat.zero_le _, Nat.le_refl _, rfl, ST, rfl⟩
  case round =>
    obtain ⟨k, kf, vN, vF, qs, hk, hkf, rfl, hU, hV⟩ := hrel
    by_cases hlt : k < n
    · have hp : ps[k]? = some (ps[k]'(by omega)) := List.getElem?_eq_getElem (by omega)
      obtain ⟨p, hpp⟩ : ∃ p, p = ps[k]'(by omega) := ⟨_, rfl⟩
      rw [← hpp] at hp
      clear hpp
      have HPk := Lib.hid hp
      have hok := HGP.out p (List.mem_of_getElem? hp)
      have hc := HGR.out k p hp
      have hgp : p.g < w.heap.size := hok.L.inside
      have l0 : w.cell? ⟨p.g, 0, none⟩ = some (.iface (hty p.lv) (.agg #[.int .i64 d, .slice p.A p.n p.c, .int .i64 p.lv, .int .i64 p.ns, .int .i64 p.rt])) := hok.L.cell 0
      have l1 : w.cell? ⟨p.g, 1, none⟩ = some (.bool p.fr) := hok.L.cell 1
      obtain ⟨hok0, hn5, hent, _, _⟩ := nodeF_zero hok.N
      have hlS : p.vs.length = p.n := hok.O.1.symm.trans hok.S.1
      have HS := Lib.hid hok.S
      have HO := Lib.hid hok.O
      have HLE := Lib.hid (lens_of hent)
      have hd2 := hok0.1.1
      have hd3 := hok0.1.2
      have hn6 : p.n ≤ 8 := by omega
      clear hok0 hent hn5 hlS hok hp
      obtain ⟨g, lv, ns, rt, pA, pn, pc, ss, vs, fr, wA, wn, wcc, ws⟩ := p
      simp only at hgp l0 l1 HS HO HLE hn6
      have hc' : wr.cell? ⟨pb, k, none⟩ = some (.pointer (some ⟨g, 0, none⟩)) := (hU.out.b.cell (p := ⟨pb, k, none⟩) hpb).trans hc
      have l0' : wr.cell? ⟨g, 0, none⟩ = some (.iface (hty lv) (.agg #[.int .i64 d, .slice pA pn pc, .int .i64 lv, .int .i64 ns, .int .i64 rt])) := (hU.out.b.cell (p := ⟨g, 0, none⟩) hgp).trans l0
      have oc1 : wr.cell? ⟨w.heap.size + 1, 1, none⟩ = some vN := hU.out.o.cell 1
      have hsz : w.heap.size + 1 + 1 ≤ wr.heap.size := hU.out.o.inside
      have hm1 := hty_node lv d ns rt pA pn pc
      have hm2 := hty_ahead lv d ns rt pA pn pc
      clear hc l0
      go_upto_region 5 with fail
      go_cut [4, 5, 18] (fun s4 s5 s18 wx => s4 = .int .i64 (k : Int) ∧ s5 = .pointer (some ⟨g, 0, none⟩) ∧ s18 = .int .i64 (k : Int) ∧ ∃ (vM : Value) (q : NV), Hid (ArW w wx d (k + 1) kf vM vF (qs ++ [q]) (freeL 0 (ps.take k))) ∧ Hid (q.val = (lv, ns, rt, vs)))
      case first =>
        go_region_law
          (first
            | (apply step_append_lies (s := .tmp 24) (x := .tmp 30) (t := 22) (base := w.heap.size + 1 + 1) (e := 42) (i := i0) (z := .agg #[.int .i64 0, .int .i64 0, .int .i64 0, .slice none 0 0]) (size := 4) (bytes := 48) (v := vN) (n := k) (xs := qs.flatMap NV.cells) (ad := ⟨W1.heap.size, 0, none⟩) (m := 1) (c := 1) (news := [.int .i64 lv, .int .i64 ns, .int .i64 rt, .slice A2 pn c2]) (H := W1.heap.size + 1)
               case hgd => rfl
               case ho => rfl
               case ht => exact Tryz.underlying22
               case hi => exact IP.out.1
               case hz => exact IP.out.2.1
               case hsize => exact IP.out.2.2.1
               case hby => exact IP.out.2.2.2
               case hzs => rfl
               case hsz => omega
               case hs => rfl
               case hown => with_reducible (repeat (first | exact hU1.out.N.S | refine World.ownsRow.drew ?_ | refine World.ownsRow.alloc ?_ _))
               case hx => rfl
               case hl => rfl
               case hnews => exact World.news_of_block (cs := #[.int .i64 lv, .int .i64 ns, .int .i64 rt, .slice A2 pn c2]) (t := 42) (fr := (0, 0)) (by (with_reducible (repeat (refine Lies.drew ?_))); exact Lies.laid rfl)
               case h1 => simp [Value.oneCell']
               case hm => omega
               case h63 => unfold maxLen; omega
               case hbytes => omega
               case hbase => simp only [size_of_drew, World.size_alloc]; omega
               case hH => simp only [size_of_drew, World.size_alloc]
               intro gg cap w1 hown1 hgrow hat hlt1
               have hS1 : Lies w1 (w.heap.size + 1) 26 #[.int .i64 d, vN, vF, .slice none 0 0] := by
                 refine ArW.mid (k := k) (kf := kf) (qs := qs) (fs := freeL 0 (ps.take k)) ?_ hgrow (Or.inl rfl)
                 with_reducible (repeat (first | exact hU1.out | refine ArW.drew ?_ | refine ArW.alloc ?_ _))
               have hS2 : Hid (ArW w (w1.setCell ⟨w.heap.size + 1, 1, none⟩ (.slice (some ⟨gg, 0, none⟩) (k + 1) cap)) d (k + 1) kf (.slice (some ⟨gg, 0, none⟩) (k + 1) cap) vF (qs ++ [⟨lv, ns, rt, A2, pn, c2, es⟩]) (freeL 0 (ps.take k))) := by
                 refine ArW.node hU.out ?_ ?_ hown1 hgrow (hat.imp id fun h => ?_)
                 · with_reducible (repeat (first | exact hbW.out | refine Below.drew ?_ | refine Below.alloc ?_ hbS _))
                 · with_reducible (repeat (first | exact hER.out | refine EntriesRes.drewO ?_ | refine EntriesRes.allocO ?_ _))
                 · simp only [size_of_drew, World.size_alloc]; omega
               have s0 : w1.cell? ⟨w.heap.size + 1, 1, none⟩ = some vN := hS1.cell 1
               have s1 : w1.frozen? ⟨w.heap.size + 1, 1, none⟩ = false := hS1.thawed 1)
            | (go_simp; go_at_call 169; refine (bodyNode_any d lv ns rt pn pc d.toNat pA vs ss _ (HS.out.kept hU.out.b.drew) HO.out hn6 HLE.out (by omega) (by omega)).mono ?_
               rintro e W1 ⟨A2, c2, es, rfl, her, hvs, b1d⟩
               have b1 := below_drawn b1d
               have hER : Hid (EntriesRes W1 wr.heap.size A2 pn c2 es) := her
               have hVS := Lib.hid hvs
               have hbW := Lib.hid b1
               have hbS := b1.size
               have hU1 := Lib.hid (hU.out.call b1)
               have l1a : W1.cell? ⟨w.heap.size + 1, 1, none⟩ = some vN := hU1.out.o.cell 1
               have hsz1 : w.heap.size + 1 < W1.heap.size := hU1.out.o.inside
               have ne1 : ¬ w.heap.size + 1 = W1.heap.size := by omega
               have ne2 : ¬ W1.heap.size = w.heap.size + 1 := by omega
               clear b1 b1d her hvs
               dsimp only))
        all_goals
          go_wp2_with fail
          go_meet
          exact ⟨rfl, rfl, rfl, _, _, hS2, by show (_, _, _, _) = _; rw [hVS.out]⟩
      case' rest =>
        obtain ⟨rfl, rfl, rfl, vM, q, hN, hq⟩ := hcut
        have hVN : Hid ((qs ++ [q]).map NV.val = (ps.take (k + 1)).map LV.val) := by
          show _ = _
          rw [List.map_append, hV.out, List.take_add_one, HPk.out, List.map_append]
          simp only [Option.toList, List.map_cons, List.map_nil]
          rw [hq.out]; rfl
        have hfr : wc.cell? ⟨g, 1, none⟩ = some (.bool fr) := (hN.out.b.cell (p := ⟨g, 1, none⟩) hgp).trans l1
        clear hU oc1 hsz hc' l0' hm1 hm2 hV l1
        have oc2 : wc.cell? ⟨w.heap.size + 1, 2, none⟩ = some vF := hN.out.o.cell 2
        have hsz : w.heap.size + 1 + 1 ≤ wc.heap.size := hN.out.o.inside
        have HFN := Lib.hid (freeL_next (i := 0) HPk.out)
        cases fr
        · have hFE : Hid (freeL 0 (ps.take (k + 1)) = freeL 0 (ps.take k)) := by show _ = _; rw [HFN.out]; simp
          have hN2 : Hid (ArW w wc d (k + 1) kf vM vF (qs ++ [q]) (freeL 0 (ps.take (k + 1)))) := by show ArW _ _ _ _ _ _ _ _ _; rw [hFE.out]; exact hN.out
          clear hN hFE HFN
          go_wp2
          go_roundw
          case rel => exact ⟨k + 1, kf, _, _, _, by omega, by omega, by go_num, hN2, hVN⟩
          case measure => simp [intOf]; omega
        · have hFE : Hid (freeL 0 (ps.take (k + 1)) = freeL 0 (ps.take k) ++ [(k : Int)]) := by show _ = _; rw [HFN.out]; simp
          have HS3 := Lib.hid ((hN.out.alloc (.cells #[.int .i64 (k : Int)] 2)).F)
          have NEWS : Hid (∀ i u, ([.int .i64 (k : Int)] : List Value)[i]? = some u → (wc.alloc (.cells #[.int .i64 (k : Int)] 2)).cell? ((⟨wc.heap.size, 0, none⟩ : Addr).add i) = some u) := World.news_of_block (cs := #[.int .i64 (k : Int)]) (t := 2) (fr := (0, 0)) (Lies.new wc 2 #[.int .i64 (k : Int)])
          go_wp2_with (with_reducible refine wpList_append_lies _ rfl (.tmp 38) (.tmp 40) 23 rfl (w.heap.size + 1 + 1) 2 j0 (.int .i64 0) 1 8 Tryz.underlying23 JP.out.1 JP.out.2.1 JP.out.2.2.1 JP.out.2.2.2 rfl (by omega) vF kf ((freeL 0 (ps.take k)).map (Value.int .i64)) rfl HS3.out ⟨wc.heap.size, 0, none⟩ 1 1 [.int .i64 (k : Int)] rfl rfl NEWS.out ?q2 (by omega) ?q3 ?q4 ?q5 (wc.heap.size + 1) ?q6 ?_)
          case q2 => simp [Value.oneCell']
          case q3 => unfold maxLen; omega
          case q4 => omega
          case q5 => (try simp only [World.size_alloc]); omega
          try (case q6 => simp only [World.size_alloc])
          intro gg cap w1 ho hw hat hlt1
          have hM := Lib.hid ((hN.out.alloc (.cells #[.int .i64 (k : Int)] 2)).mid hw (Or.inr rfl))
          have hS2 := Lib.hid ((hN.out.alloc (.cells #[.int .i64 (k : Int)] 2)).free ho hw (by simpa only [World.size_alloc] using hat))
          have hS3 : Hid (ArW w (w1.setCell ⟨w.heap.size + 1, 2, none⟩ (.slice (some ⟨gg, 0, none⟩) (kf + 1) cap)) d (k + 1) (kf + 1) vM (.slice (some ⟨gg, 0, none⟩) (kf + 1) cap) (qs ++ [q]) (freeL 0 (ps.take (k + 1)))) := by show ArW _ _ _ _ _ _ _ _ _; rw [hFE.out]; exact hS2.out
          have s0 : w1.cell? ⟨w.heap.size + 1, 2, none⟩ = some vF := hM.out.cell 2
          have s1 : w1.frozen? ⟨w.heap.size + 1, 2, none⟩ = false := hM.out.thawed 2
          clear ho hw hat hlt1 HS3 NEWS oc2 hM hN hS2 hFE HFN
          go_wp2
          go_roundw
          case rel => exact ⟨k + 1, kf + 1, _, _, _, by omega, by omega, by go_num, hS3, hVN⟩
          case measure => simp [intOf]; omega
    · have hkn : k = n := by omega
      subst hkn
      have HT : ps.take k = ps := List.take_of_length_le (by omega)
      have hU2 := hU.out
      have hV2 := hV.out
      rw [HT] at hU2 hV2
      have HU := Lib.hid hU2
      have HV := Lib.hid hV2
      clear hU hV hU2 hV2 HT
      have HNV : Hid (∀ p ∈ ps, p.vs.length ≤ 5) := fun p hp => (nodeF_zero (HGP.out p hp).N).2.1
      obtain ⟨l0, hl0, hy0, hy1, hy2⟩ := info_ret
      have LP := Lib.hid (And.intro hl0 (And.intro hy0 (And.intro hy1 hy2)))
      clear hl0 hy0 hy1 hy2
      have HX := Lib.hid HU.out.more
      have g3 : wr.cell? ⟨G, 3, none⟩ = some (.slice oA k3 oC) := (HU.out.b.cell (p := ⟨G, 3, none⟩) hG).trans (HGL.out.cell 3)
      go_wp2
      clear g3 HU
      go_loopw [49] (fun i wr => ∃ (j : Nat) (vR : Value) (ts : List RV), j ≤ k3 ∧ i = .int .i64 (j : Int) ∧ Hid (ArX w wr d k kf j vN vF vR qs (freeL 0 ps) ts) ∧ Hid (ts.map RV.val = us.take j)) (fun i _ => k3 - (intOf i).toNat)
      case atStart => exact ⟨0, _, [], Nat.zero_le _, rfl, HX, rfl⟩
      case round =>
        obtain ⟨j, vR, ts, hj, rfl, hX, hT⟩ := hrel
        clear HX
        by_cases hlt : j < k3
        · obtain ⟨ob, oo, x, rfl, _, hob, hoc, hox⟩ := HOI.out.cellAt hlt
          obtain ⟨u, hu, hux⟩ : ∃ u, us[j]? = some u ∧ u.1 = x := by
            have h1 := hox.out
            rw [← HID.out, List.getElem?_map] at h1
            obtain ⟨u, h2, h3⟩ := Option.map_eq_some_iff.1 h1
            exact ⟨u, h2, h3⟩
          obtain ⟨i, q, hi1, hq, hfq, hqw⟩ := HWT.out j u hu
          obtain ⟨hu0, hu4⟩ := HNE.out u (List.mem_of_getElem? hu)
          have hin : i < k := by have := (List.getElem?_eq_some_iff.1 hq).1; omega
          obtain ⟨ux, uw⟩ := u
          simp only at hux hi1 hfq hqw hu0 hu4
          subst hux
          subst hqw
          subst hi1
          have hok := HGP.out q (List.mem_of_getElem? hq)
          have hgq : q.g < w.heap.size := hok.L.inside
          have hW2 : Hid (Ints w 0 q.wA q.wn q.ws) := Lib.hid hok.W
          have hwl : q.ws.length = q.wn := hok.W.1
          have pc2 : w.cell? ⟨q.g, 2, none⟩ = some (.slice q.wA q.wn q.wc) := hok.L.cell 2
          have hw0 : 0 < q.wn := by omega
          have hw4 : q.wn ≤ 4 := by omega
          have HUJ := Lib.hid hu
          have hjlt : (j : Int) < (k3 : Int) := by omega
          have HWF : Hid ((Lit.int .i64 (i : Int)).wf = true) := WalkArith.wf_i64 (by omega)
          clear hok hwl hu hu0 hu4 hq
          have rc : wr.cell? ⟨ob, oo + j, none⟩ = some (.int .i64 (i : Int)) := (hX.out.b.cell (p := ⟨ob, oo + j, none⟩) hob).trans hoc
          have gc2 : wr.cell? ⟨G, 2, none⟩ = some (.map (some M)) := (hX.out.b.cell (p := ⟨G, 2, none⟩) hG).trans (HGL.out.cell 2)
          have qc2 : wr.cell? ⟨q.g, 2, none⟩ = some (.slice q.wA q.wn q.wc) := (hX.out.b.cell (p := ⟨q.g, 2, none⟩) hgq).trans pc2
          have oc3 : wr.cell? ⟨w.heap.size + 1, 3, none⟩ = some vR := hX.out.o.cell 3
          have hlook : (Instr.lookup 107 (.map (some M)) (.int .i64 (i : Int)) false).run Tryz.prog wr.drew = .ok (.pointer (some ⟨q.g, 0, none⟩)) wr.drew := ((HPM.out.kept hX.out.b).block (w' := wr.drew) rfl).look0 HWF.out hfq
          have hsz : w.heap.size + 1 + 1 ≤ wr.heap.size := hX.out.o.inside
          clear pc2 hoc hox
          go_upto_region 12 with fail
          go_region_law
            (first
              | (apply step_append_lies (s := .tmp 54) (x := .tmp 67) (t := 24) (base := w.heap.size + 1 + 1) (e := 123) (i := l0) (z := .agg #[.int .i64 0, .slice none 0 0]) (size := 2) (bytes := 32) (v := vR) (n := j) (xs := ts.flatMap RV.cells) (ad := ⟨W1.heap.size, 0, none⟩) (m := 1) (c := 1) (news := [.int .i64 (i : Int), .slice (some ⟨g2, 0, none⟩) q.wn c2]) (H := W1.heap.size + 1)
                 case hgd => rfl
                 case ho => rfl
                 case ht => exact Tryz.underlying24
                 case hi => exact LP.out.1
                 case hz => exact LP.out.2.1
                 case hsize => exact LP.out.2.2.1
                 case hby => exact LP.out.2.2.2
                 case hzs => rfl
                 case hsz => omega
                 case hs => rfl
                 case hown => with_reducible (repeat (first | exact hX1.out.R.S | refine World.ownsRow.drew ?_ | refine World.ownsRow.alloc ?_ _))
                 case hx => rfl
                 case hl => rfl
                 case hnews => exact World.news_of_block (cs := #[.int .i64 (i : Int), .slice (some ⟨g2, 0, none⟩) q.wn c2]) (t := 123) (fr := (0, 0)) (by (with_reducible (repeat (refine Lies.drew ?_))); exact Lies.laid rfl)
                 case h1 => simp [Value.oneCell']
                 case hm => omega
                 case h63 => unfold maxLen; omega
                 case hbytes => omega
                 case hbase => simp only [size_of_drew, World.size_alloc]; omega
                 case hH => simp only [size_of_drew, World.size_alloc]
                 intro gg cap w1 hown1 hgrow hat hlt1
                 have hS1 : Lies w1 (w.heap.size + 1) 26 #[.int .i64 d, vN, vF, vR] := by
                   refine ArX.mid (n := k) (kf := kf) (k := j) (qs := qs) (fs := freeL 0 ps) (ts := ts) ?_ hgrow
                   with_reducible (repeat (first | exact hX1.out | refine ArX.drew ?_ | refine ArX.alloc ?_ _))
                 have hS2 : Hid (ArX w (w1.setCell ⟨w.heap.size + 1, 3, none⟩ (.slice (some ⟨gg, 0, none⟩) (j + 1) cap)) d k kf (j + 1) vN vF (.slice (some ⟨gg, 0, none⟩) (j + 1) cap) qs (freeL 0 ps) (ts ++ [⟨(i : Int), some ⟨g2, 0, none⟩, q.wn, c2, q.ws⟩])) := by
                   refine ArX.put hX.out ?_ ?_ hown1 hgrow (hat.imp id fun h => ?_)
                   · with_reducible (repeat (first | exact hbW.out | refine Below.drew ?_ | refine Below.alloc ?_ hbS _))
                   · with_reducible (repeat (first | exact hCR.out | refine World.ownsRow.drew ?_ | refine World.ownsRow.alloc ?_ _))
                   · simp only [size_of_drew, World.size_alloc]; omega
                 have s0 : w1.cell? ⟨w.heap.size + 1, 3, none⟩ = some vR := hS1.cell 3
                 have s1 : w1.frozen? ⟨w.heap.size + 1, 3, none⟩ = false := hS1.thawed 3)
              | (go_simp; go_at_call 99; refine (cloneInts_own q.wn q.wc 0 q.wA q.ws _ (hW2.out.kept hX.out.b.drew) hw0 (by omega)).mono ?_
                 rintro e W1 ⟨g2, c2, rfl, hcr, b1d⟩
                 have b1 := below_drawn b1d
                 have hCR : Hid (W1.ownsRow wr.heap.size 2 1 (.slice (some ⟨g2, 0, none⟩) q.wn c2) q.wn (q.ws.map (Value.int .i64))) := hcr
                 have hbW := Lib.hid b1
                 have hbS := b1.size
                 have hX1 := Lib.hid (hX.out.call b1)
                 have l3 : W1.cell? ⟨w.heap.size + 1, 3, none⟩ = some vR := hX1.out.o.cell 3
                 have hsz1 : w.heap.size + 1 < W1.heap.size := hX1.out.o.inside
                 have ne1 : ¬ w.heap.size + 1 = W1.heap.size := by omega
                 have ne2 : ¬ W1.heap.size = w.heap.size + 1 := by omega
                 clear b1 b1d hcr
                 dsimp only))
          all_goals
            have hTN : Hid ((ts ++ [(⟨(i : Int), some ⟨g2, 0, none⟩, q.wn, c2, q.ws⟩ : RV)]).map RV.val = us.take (j + 1)) := by
              show _ = _
              rw [List.map_append, hT.out, List.take_add_one, HUJ.out]
              rfl
            clear hX oc3 hsz rc gc2 qc2 hlook hT
            go_wp2
            go_roundw
            case rel => exact ⟨j + 1, _, _, by omega, by go_num, hS2, hTN⟩
            case measure => simp [intOf]; omega
        · have hjk : j = k3 := by omega
          subst hjk
          have HT2 : Hid (ts.map RV.val = us) := by
            have h1 := hT.out
            rwa [List.take_of_length_le (by have := congrArg List.length HID.out; have := HOI.out.1; simp only [List.length_map] at *; omega)] at h1
          obtain ⟨A1, k1, hv1⟩ := ownsRow_sliceA hX.out.N.S
          obtain ⟨A2, k2, hv2⟩ := ownsRow_sliceA hX.out.F
          obtain ⟨A3, k4, hv3⟩ := ownsRow_sliceA hX.out.R.S
          subst hv1
          subst hv2
          subst hv3
          have c0 : wr.cell? ⟨w.heap.size + 1, 0, none⟩ = some (.int .i64 d) := hX.out.o.cell 0
          have c1 : wr.cell? ⟨w.heap.size + 1, 1, none⟩ = some (.slice A1 k k1) := hX.out.o.cell 1
          have c2 : wr.cell? ⟨w.heap.size + 1, 2, none⟩ = some (.slice A2 kf k2) := hX.out.o.cell 2
          have c3 : wr.cell? ⟨w.heap.size + 1, 3, none⟩ = some (.slice A3 j k4) := hX.out.o.cell 3
          have r0 : wr.cell? ⟨w.heap.size, 0, none⟩ = some (.int .i64 0) := hX.out.r.cell 0
          have r1 : wr.cell? ⟨w.heap.size, 1, none⟩ = some (.slice none 0 0) := hX.out.r.cell 1
          have r2 : wr.cell? ⟨w.heap.size, 2, none⟩ = some (.slice none 0 0) := hX.out.r.cell 2
          have r3 : wr.cell? ⟨w.heap.size, 3, none⟩ = some (.slice none 0 0) := hX.out.r.cell 3
          have f0 : wr.frozen? ⟨w.heap.size, 0, none⟩ = false := hX.out.r.thawed 0
          have f1 : wr.frozen? ⟨w.heap.size, 1, none⟩ = false := hX.out.r.thawed 1
          have f2 : wr.frozen? ⟨w.heap.size, 2, none⟩ = false := hX.out.r.thawed 2
          have f3 : wr.frozen? ⟨w.heap.size, 3, none⟩ = false := hX.out.r.thawed 3
          have hqn : ∀ q ∈ qs, q.n1 ≤ 10 := by
            intro q hq
            have h1 := (hX.out.N.Q q hq).len
            have h2 : q.val ∈ ps.map LV.val := by rw [← HV.out]; exact List.mem_map_of_mem hq
            obtain ⟨p, hp, hpv⟩ := List.mem_map.1 h2
            have h3 := HNV.out p hp
            have h4 : p.vs = q.es.map EV.val := congrArg (fun v : NVal => v.2.2.2) hpv
            rw [h4, List.length_map] at h3
            omega
          have htn : ∀ t ∈ ts, t.n1 ≤ 10 := by
            intro t ht
            have h1 : t.val ∈ us := by rw [← HT2.out]; exact List.mem_map_of_mem ht
            have h2 := (HNE.out _ h1).2
            have h3 := (hX.out.R.Q t ht).1
            simp only [RV.val, List.length_map, Nat.mul_one] at h2 h3
            omega
          have AN := Lib.hid (AnsAr.mk (w := wr) (lo := w.heap.size + 1 + 1) hX.out.N hX.out.F hX.out.R hX.out.d hX.out.e (by omega) (by omega) hk3 hqn htn)
          have BB := Lib.hid ((((hX.out.b.setCell (p := ⟨w.heap.size, 0, none⟩) (Nat.le_refl _) (.int .i64 d)).setCell (p := ⟨w.heap.size, 1, none⟩) (Nat.le_refl _) (.slice A1 k k1)).setCell (p := ⟨w.heap.size, 2, none⟩) (Nat.le_refl _) (.slice A2 kf k2)).setCell (p := ⟨w.heap.size, 3, none⟩) (Nat.le_refl _) (.slice A3 j k4))
          have lt2 : w.heap.size < w.heap.size + 1 + 1 := by omega
          have A4 := Lib.hid ((((AN.out.far (a := ⟨w.heap.size, 0, none⟩) lt2 (.int .i64 d)).far (a := ⟨w.heap.size, 1, none⟩) lt2 (.slice A1 k k1)).far (a := ⟨w.heap.size, 2, none⟩) lt2 (.slice A2 kf k2)).far (a := ⟨w.heap.size, 3, none⟩) lt2 (.slice A3 j k4))
          clear hX AN hqn htn
          go_wp2
          refine bodyPost_ret (v := .agg #[.int .i64 d, .slice A1 k k1, .slice A2 kf k2, .slice A3 j k4]) (by simp [results, Tryz.results66, go_sem, r0, r1, r2, r3]) rfl ⟨A1, k1, kf, A2, k2, A3, k4, qs, ts, rfl, ?_, HV.out, HT2.out, ?_⟩
          · exact A4.out.lower (by omega)
          · exact BB.out

end Go.Proofs.YtpgoildfjkokiaaGreat
