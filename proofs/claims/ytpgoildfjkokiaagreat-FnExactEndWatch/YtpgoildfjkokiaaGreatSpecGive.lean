/- The walks of spec.l4Retired, spec.l4Give and spec.l4Without. -/
import Derived.Test.YtpgoildfjkokiaaGreatSpecTake
import Derived.Test.YtpgoildfjkokiaaGreatFilters
namespace Go.Proofs.YtpgoildfjkokiaaGreat
open Go.RowKit

set_option maxRecDepth 100000 in
set_option maxHeartbeats 1600000 in
theorem l4Retired_any (b n3 c3 : Nat) (A3 : Option Addr) (rs : List RV) (id : Int) (cc : Bool) (w : World) (hcc : ((rs.map RV.val).map (·.1)).contains id = cc) (k3 : w.cell? ⟨b, 3, none⟩ = some (.slice A3 n3 c3)) (hR : Rets w A3 n3 rs) (m3 : n3 ≤ maxLen) :
    Calls Tryz.prog 58 #[.pointer (some ⟨b, 0, none⟩), .int .i64 id] w fun e w' => e = .returned (.bool cc) ∧ w = w' := by
  have HR := Lib.hid hR
  have HL : Hid (((rs.map RV.val).map (·.1)).length = n3) := by show List.length _ = n3; rw [List.length_map, List.length_map]; exact hR.1
  have HCC := Lib.hid hcc
  clear hR hcc
  unfold maxLen at m3
  go_enter Tryz.func58, Tryz.ntmps58
  go_wp2
  go_loopw [5] (fun i wr => ∃ k : Nat, k ≤ n3 ∧ i = .int .i64 (k : Int) ∧ wr = w ∧ Hid (∀ (j : Nat) (x : Int), j < k → ((rs.map RV.val).map (·.1))[j]? = some x → x ≠ id)) (fun i _ => n3 - (intOf i).toNat)
  case atStart => exact ⟨0, Nat.zero_le _, rfl, rfl, fun j u hj => absurd hj (Nat.not_lt_zero _)⟩
  case round =>
    obtain ⟨k, hk', rfl, rfl, hA⟩ := hrel
    by_cases hlt : k < n3
    · obtain ⟨bb, o, x, X1, k1, e1, ws, rfl, hb, d0, d1, hx, hI, hk1⟩ := HR.out.cellAt hlt
      have HX := Lib.hid (rid_get hx.out)
      have hlt' : (k : Int) < (n3 : Int) := by omega
      clear hx hI d1
      by_cases hz : x = id
      · have HF : Hid (cc = true) := by show _ = _; rw [← HCC.out, List.contains_iff_mem, ← hz]; exact List.mem_of_getElem? HX.out
        have hz1 : (x == id) = true := by simpa using hz
        clear hA
        go_wp2
        go_ret
        exact ⟨ret_bool HF.out.symm, rfl⟩
      · have hz1 : (x == id) = false := by simpa using hz
        have hA' := Lib.hid (upto_next (P := fun x => x ≠ id) hA.out HX.out hz)
        clear hA
        go_wp2
        go_roundw
        case rel => exact ⟨k + 1, by omega, by go_num, by trivial, hA'⟩
        case measure => simp [intOf]; omega
    · have HF : Hid (cc = false) := by
        show _ = _
        rw [← HCC.out, Bool.eq_false_iff]
        intro hc
        rw [List.contains_iff_mem] at hc
        obtain ⟨j, hj⟩ := List.getElem?_of_mem hc
        exact hA.out j id (by have h1 := (List.getElem?_eq_some_iff.1 hj).1; have h2 := HL.out; omega) hj rfl
      clear hA
      go_wp2
      go_ret
      exact ⟨ret_bool HF.out.symm, rfl⟩

theorem rows4_none (w : World) (base : Nat) : Rows4 w base 0 [] (.slice none 0 0) := ⟨⟨rfl, Or.inl ⟨rfl, rfl⟩⟩, fun q hq => by simp at hq⟩
/-- Where the giving back stands: the list so far, whether the place is in it, and the rest. -/
def givenF (id : Int) (dn : Bool) (out fs : List Int) (k : Nat) : Prop := out ++ (if dn then fs.drop k else giveF id (fs.drop k)) = giveF id fs ∧ out.length = k + dn.toNat

set_option maxRecDepth 100000 in
set_option maxHeartbeats 12800000 in
theorem l4Give_any (d : Int) (base B g n1 c1 n2 c2 n3 c3 i : Nat) (A2 A3 : Option Addr) (ns : List NV) (fs : List Int) (rs : List RV) (w : World) (h : SpAr w base B d (some ⟨g, 0, none⟩) n1 c1 A2 n2 c2 A3 n3 c3 ns fs rs) (hi : i < n1) (hn1 : n1 ≤ 40) (hn2 : n2 ≤ 1048575) (hlo : base ≤ w.heap.size) :
    Calls Tryz.prog 97 #[.pointer (some ⟨B, 0, none⟩), .int .i64 (i : Int)] w fun e w' => ∃ A2' c2' q, e = .returned noResult ∧ SpAr w' base B d (some ⟨g, 0, none⟩) n1 c1 A2' (n2 + 1) c2' A3 n3 c3 (ns.set i q) (giveF (i : Int) fs) rs ∧ q.val = vacV ∧ Turned (fun x => x = B ∨ x = g) w w' := by
  have H := Lib.hid h
  have gsz := (h.V.inB g (Or.inl rfl)).2
  have glo := (h.V.inB g (Or.inl rfl)).1
  have hBi := h.o.inside
  have HLF : Hid (fs.length = n2) := by have h1 := h.V.F.1; rw [List.length_map] at h1; exact Lib.hid (by omega)
  obtain ⟨i0, hi0, hz0, hz1, hz2⟩ := info_parts'
  have IP := Lib.hid (And.intro hi0 (And.intro hz0 (And.intro hz1 hz2)))
  clear hi0 hz0 hz1 hz2
  have oc2 : w.cell? ⟨B, 1, none⟩ = some (.slice (some ⟨g, 0, none⟩) n1 c1) := h.o.cell 1
  have hii : (i : Int) < (n1 : Int) := by omega
  clear h
  go_enter Tryz.func97, Tryz.ntmps97
  go_upto_region 0 with fail
  refine wp_region_last 7 (fun w' => w'.cell? ⟨B, 1, none⟩ = some (.slice (some ⟨g, 0, none⟩) n1 c1)) (by kernel_rfl) (oc2) (fun hHeld => ?_)
  apply wpAnyL_take (i := 0)
  · simp only [List.getElem?_toArray, List.getElem?_cons_succ, List.getElem?_cons_zero]; exact rfl
  refine ⟨⟨by kernel_rfl, by kernel_rfl, by kernel_rfl, by kernel_rfl, by kernel_rfl⟩, fun _ _ _ h => h, ?_, hHeld, ?_⟩
  · intro w hSw; (try dsimp only at hSw); go_simp; all_goals (with_reducible rfl)
  (try simp only [Act.put, List.setIfInBounds_toArray, List.set_cons_zero, List.set_cons_succ])
  apply wpAnyL_take (i := 1)
  · simp only [List.getElem?_toArray, List.getElem?_cons_succ, List.getElem?_cons_zero]; exact rfl
  refine ⟨⟨by kernel_rfl, by kernel_rfl, by kernel_rfl, by kernel_rfl, by kernel_rfl⟩, fun _ _ _ h => h, ?_, hHeld, ?_⟩
  · intro w hSw; (try dsimp only at hSw); go_simp; all_goals (with_reducible rfl)
  (try simp only [Act.put, List.setIfInBounds_toArray, List.set_cons_zero, List.set_cons_succ])
  apply wpAnyL_take (i := 2)
  · simp only [List.getElem?_toArray, List.getElem?_cons_succ, List.getElem?_cons_zero]; exact rfl
  refine ⟨⟨by kernel_rfl, by kernel_rfl, by kernel_rfl, by kernel_rfl, by kernel_rfl⟩, fun _ _ _ h => h, ?_, hHeld, ?_⟩
  · intro w hSw; (try dsimp only at hSw); go_simp; all_goals (with_reducible rfl)
  (try simp only [Act.put, List.setIfInBounds_toArray, List.set_cons_zero, List.set_cons_succ])
  apply wpAnyL_take (i := 3)
  · simp only [List.getElem?_toArray, List.getElem?_cons_succ, List.getElem?_cons_zero]; exact rfl
  refine ⟨⟨by kernel_rfl, by kernel_rfl, by kernel_rfl, by kernel_rfl, by kernel_rfl⟩, fun _ _ _ h => h, ?_, hHeld, ?_⟩
  · intro w hSw; (try dsimp only at hSw); go_simp; all_goals (with_reducible rfl)
  (try simp only [Act.put, List.setIfInBounds_toArray, List.set_cons_zero, List.set_cons_succ])
  apply wpAnyL_take (i := 4)
  · simp only [List.getElem?_toArray, List.getElem?_cons_succ, List.getElem?_cons_zero]; exact rfl
  refine ⟨⟨by kernel_rfl, by kernel_rfl, by kernel_rfl, by kernel_rfl, by kernel_rfl⟩, fun _ _ _ h => h, ?_, hHeld, ?_⟩
  · intro w hSw; (try dsimp only at hSw); go_simp; all_goals (with_reducible rfl)
  (try simp only [Act.put, List.setIfInBounds_toArray, List.set_cons_zero, List.set_cons_succ])
  apply wpAnyL_one (i := 5)
  · simp only [List.getElem?_toArray, List.getElem?_cons_succ, List.getElem?_cons_zero]; exact rfl
  refine ⟨by kernel_rfl, fun K hK => ?_⟩
  go_simp
  go_at_call 73
  refine (l4Empty_any _).mono ?_
  rintro e W3 ⟨rfl, b3d⟩
  have b3 := below_drawn b3d
  have HB3 := Lib.hid b3
  have oc3 : W3.cell? ⟨B, 1, none⟩ = some (.slice (some ⟨g, 0, none⟩) n1 c1) := (H.out.kept b3).o.cell 1
  obtain ⟨qo, hqo⟩ : ∃ q, ns[i]? = some q := ⟨_, List.getElem?_eq_getElem (by rw [H.out.V.N.len]; exact hi)⟩
  have HAT := Lib.hid (owned_at (H.out.kept b3).V.N.S (by omega))
  obtain ⟨g', eg, _, _, hgi, hcells, hfroz⟩ := HAT.out
  injection eg with eg
  injection eg with eg
  subst eg
  have t0 : W3.cell? ⟨g, i * 4, none⟩ = some (.int .i64 qo.lv) := hcells _ _ (nvCells_at (j := 0) hqo rfl)
  have t1 : W3.cell? ⟨g, i * 4 + 1, none⟩ = some (.int .i64 qo.ns) := hcells _ _ (nvCells_at (j := 1) hqo rfl)
  have t2 : W3.cell? ⟨g, i * 4 + 2, none⟩ = some (.int .i64 qo.rt) := hcells _ _ (nvCells_at (j := 2) hqo rfl)
  have t3 : W3.cell? ⟨g, i * 4 + 3, none⟩ = some (.slice qo.A1 qo.n1 qo.c1) := hcells _ _ (nvCells_at (j := 3) hqo rfl)
  have y0 : W3.frozen? ⟨g, i * 4, none⟩ = false := hfroz _
  have y1 : W3.frozen? ⟨g, i * 4 + 1, none⟩ = false := hfroz _
  have y2 : W3.frozen? ⟨g, i * 4 + 2, none⟩ = false := hfroz _
  have y3 : W3.frozen? ⟨g, i * 4 + 3, none⟩ = false := hfroz _
  clear b3d HAT hcells hfroz hqo b3
  have hS_5 := oc3
  refine hK.out _ _ (fun _ => hS_5) ?_
  clear hK K
  (try simp only [Act.put, List.setIfInBounds_toArray, List.set_cons_zero, List.set_cons_succ])
  apply wpAnyL_take (i := 6)
  · simp only [List.getElem?_toArray, List.getElem?_cons_succ, List.getElem?_cons_zero]; exact rfl
  refine ⟨⟨by kernel_rfl, by kernel_rfl, by kernel_rfl, by kernel_rfl, by kernel_rfl⟩, fun _ _ _ h => h, ?_, hS_5, ?_⟩
  · intro w hSw; (try dsimp only at hSw); go_simp; all_goals (with_reducible rfl)
  (try simp only [Act.put, List.setIfInBounds_toArray, List.set_cons_zero, List.set_cons_succ])
  apply wpAnyL_one (i := 7)
  · simp only [List.getElem?_toArray, List.getElem?_cons_succ, List.getElem?_cons_zero]; exact rfl
  refine ⟨by kernel_rfl, fun K hK => ?_⟩
  go_simp
  refine hK.out _ _ (fun h => absurd rfl h) ?_
  clear hK K
  refine wpAnyL_done (by kernel_rfl) ?_ _
  have S3' := Lib.hid (H.out.node (q := ⟨0, 0, -1, none, 0, 0, []⟩) hi HB3.out (rows4_none W3 w.heap.size) (by decide) hlo)
  have T3' : Hid (Turned (fun x => x = B ∨ x = g) w ((((W3.setCell ⟨g, i * 4, none⟩ (.int .i64 0)).setCell ⟨g, i * 4 + 1, none⟩ (.int .i64 0)).setCell ⟨g, i * 4 + 2, none⟩ (.int .i64 (-1))).setCell ⟨g, i * 4 + 3, none⟩ (.slice none 0 0))) :=
    ((((Turned.of_below (G := fun x => x = B ∨ x = g) HB3.out).setCell (a := ⟨g, i * 4, none⟩) (Or.inr rfl) _).setCell (a := ⟨g, i * 4 + 1, none⟩) (Or.inr rfl) _).setCell (a := ⟨g, i * 4 + 2, none⟩) (Or.inr rfl) _).setCell (a := ⟨g, i * 4 + 3, none⟩) (Or.inr rfl) _
  clear hS_5 oc3 oc2 t0 t1 t2 t3 y0 y1 y2 y3 hHeld HB3
  generalize hW2 : ((((W3.setCell ⟨g, i * 4, none⟩ (.int .i64 0)).setCell ⟨g, i * 4 + 1, none⟩ (.int .i64 0)).setCell ⟨g, i * 4 + 2, none⟩ (.int .i64 (-1))).setCell ⟨g, i * 4 + 3, none⟩ (.slice none 0 0)) = W2 at *
  clear hW2
  have S3 := S3'
  have T3 := T3'
  clear S3' T3'
  have ST : Hid ((W2.alloc (.cells #[] 2)).ownsRow W2.heap.size 2 1 (.slice (some ⟨W2.heap.size, 0, none⟩) 0 0) 0 (([] : List Int).map (Value.int .i64))) := ⟨rfl, Or.inr ⟨W2.heap.size, 0, #[], rfl, Nat.le_refl _, heap_alloc_new W2 _, Nat.le_refl _, Nat.zero_le _, rfl, rfl⟩⟩
  have B0 : Hid (Below W2.heap.size W2 (W2.alloc (.cells #[] 2))) := below_alloc W2 _
  have G0 : Hid (givenF (i : Int) false [] fs 0) := ⟨by simp, rfl⟩
  go_wp2
  go_loopw [4, 5, 6] (fun vo vd vk wr => ∃ (k : Nat) (dn : Bool) (v : Value) (out : List Int), k ≤ n2 ∧ vk = .int .i64 (k : Int) ∧ vd = .bool dn ∧ v = vo ∧ Hid (wr.ownsRow W2.heap.size 2 1 v (k + dn.toNat) (out.map (Value.int .i64))) ∧ Hid (givenF (i : Int) dn out fs k) ∧ Hid (Below W2.heap.size W2 wr)) (fun _ _ vk _ => n2 - (intOf vk).toNat)
  case atStart => exact ⟨0, false, _, [], Nat.zero_le _, rfl, rfl, rfl, ST, G0, B0⟩
  case round =>
    obtain ⟨k, dn, v, out, hk, rfl, rfl, rfl, hO, hG, hB⟩ := hrel
    clear ST G0 B0
    have SR := Lib.hid (S3.out.kept hB.out)
    have wsz : W2.heap.size ≤ wr.heap.size := hB.out.size
    have oc2 : wr.cell? ⟨B, 2, none⟩ = some (.slice A2 n2 c2) := SR.out.o.cell 2
    by_cases hlt : k < n2
    · obtain ⟨x, hx⟩ : ∃ x, fs[k]? = some x := ⟨_, List.getElem?_eq_getElem (by rw [HLF.out]; exact hlt)⟩
      obtain ⟨f, hA2, fown, hf1, hf2, hfc, hff⟩ := owned_at SR.out.V.F (by omega)
      subst hA2
      have l1 : wr.cell? ⟨f, k, none⟩ = some (.int .i64 x) := hfc k _ (by rw [List.getElem?_map, hx]; rfl)
      have hdrop : fs.drop k = x :: fs.drop (k + 1) := by
        rw [List.drop_eq_getElem_cons (by have := HLF.out; omega)]
        rw [List.getElem?_eq_getElem (by have := HLF.out; omega)] at hx
        injection hx with hx
        rw [hx]
      have HD := Lib.hid hdrop
      have hlt' : (k : Int) < (n2 : Int) := by omega
      have at1 : ∀ wz, Below W2.heap.size W2 wz → wz.cell? ⟨f, k, none⟩ = some (.int .i64 x) ∧ wz.cell? ⟨B, 2, none⟩ = some (.slice (some ⟨f, 0, none⟩) n2 c2) := by
        intro wz hz
        have SZ := S3.out.kept hz
        obtain ⟨f', hA2', _, _, _, hfc', _⟩ := owned_at SZ.V.F (by omega)
        injection hA2' with hA2'
        injection hA2' with hA2'
        subst hA2'
        exact ⟨hfc' k _ (by rw [List.getElem?_map, hx]; rfl), SZ.o.cell 2⟩
      clear hfc hff hdrop hx
      cases dn
      · by_cases hg : x > (i : Int)
        · have hG1 : Hid (givenF (i : Int) true ((out ++ [(i : Int)]) ++ [x]) fs (k + 1)) := by
            obtain ⟨a1, a2⟩ := hG.out
            rw [HD.out, if_neg (by decide)] at a1
            refine ⟨?_, by simp only [List.length_append, List.length_singleton]; rw [a2]; rfl⟩
            rw [← a1, if_pos rfl]
            unfold giveF
            rw [if_pos hg]
            simp
          clear hG
          have hO0 : Hid (wr.ownsRow W2.heap.size 2 1 v k (out.map (Value.int .i64))) := hO
          clear hO
          have NEWS : Hid (∀ (t : Nat) (u : Value), ([.int .i64 (i : Int)] : List Value)[t]? = some u → (wr.alloc (.cells #[.int .i64 (i : Int)] 2)).cell? ((⟨wr.heap.size, 0, none⟩ : Addr).add t) = some u) := World.news_of_block (cs := #[.int .i64 (i : Int)]) (t := 2) (fr := (0, 0)) (Lies.new wr 2 #[.int .i64 (i : Int)])
          go_wp2_with (with_reducible refine wpList_append_lies _ rfl (.tmp 37) (.tmp 39) 23 rfl W2.heap.size 2 i0 (.int .i64 0) 1 8 Tryz.underlying23 IP.out.1 IP.out.2.1 IP.out.2.2.1 IP.out.2.2.2 rfl (by omega) v (k) (out.map (Value.int .i64)) rfl (hO0.out.alloc (.cells #[.int .i64 (i : Int)] 2)) ⟨wr.heap.size, 0, none⟩ 1 1 [.int .i64 (i : Int)] rfl rfl NEWS.out ?h1q2 (by omega) ?h1q3 ?h1q4 ?h1q5 (wr.heap.size + 1) ?h1q6 ?_)
          case h1q2 => simp [Value.oneCell']
          case h1q3 => unfold maxLen; omega
          case h1q4 => omega
          case h1q5 => (try simp only [World.size_alloc]); omega
          try (case h1q6 => simp only [World.size_alloc])
          intro gg1 cap1 wk1 ho hw hat hlt1
          have hO1 : Hid (wk1.ownsRow W2.heap.size 2 1 (.slice (some ⟨gg1, 0, none⟩) (k + 1) cap1) (k + 1) ((out ++ [(i : Int)]).map (Value.int .i64))) := by show World.ownsRow _ _ _ _ _ _ _; (first | (rw [List.map_append]; exact ho) | simpa using ho)
          have hB1 : Hid (Below W2.heap.size W2 wk1) := below_grown2 (hB.out.alloc (by have := hB.out.size; omega) (.cells #[.int .i64 (i : Int)] 2)) hw (fun r e => (ownsRow_block2 hO0.out r e).1) (by have := hB.out.size; simp only [World.size_alloc]; omega)
          clear ho hw hat hlt1 NEWS
          
          have l2 : wk1.cell? ⟨f, k, none⟩ = some (.int .i64 x) ∧ wk1.cell? ⟨B, 2, none⟩ = some (.slice (some ⟨f, 0, none⟩) n2 c2) := at1 wk1 hB1.out
          have wz1 : W2.heap.size ≤ wk1.heap.size := by have := hB1.out.size; omega
          have l3 := l2.1
          have l4 := l2.2
          clear l1 oc2 hB hO0 SR l2
          have NEWS : Hid (∀ (t : Nat) (u : Value), ([.int .i64 x] : List Value)[t]? = some u → (wk1.alloc (.cells #[.int .i64 x] 2)).cell? ((⟨wk1.heap.size, 0, none⟩ : Addr).add t) = some u) := World.news_of_block (cs := #[.int .i64 x]) (t := 2) (fr := (0, 0)) (Lies.new wk1 2 #[.int .i64 x])
          go_wp2_with (with_reducible refine wpList_append_lies _ rfl (.tmp 41) (.tmp 49) 23 rfl W2.heap.size 2 i0 (.int .i64 0) 1 8 Tryz.underlying23 IP.out.1 IP.out.2.1 IP.out.2.2.1 IP.out.2.2.2 rfl (by omega) (.slice (some ⟨gg1, 0, none⟩) (k + 1) cap1) (k + 1) ((out ++ [(i : Int)]).map (Value.int .i64)) rfl (hO1.out.alloc (.cells #[.int .i64 x] 2)) ⟨wk1.heap.size, 0, none⟩ 1 1 [.int .i64 x] rfl rfl NEWS.out ?h2q2 (by omega) ?h2q3 ?h2q4 ?h2q5 (wk1.heap.size + 1) ?h2q6 ?_)
          case h2q2 => simp [Value.oneCell']
          case h2q3 => unfold maxLen; omega
          case h2q4 => omega
          case h2q5 => (try simp only [World.size_alloc]); omega
          try (case h2q6 => simp only [World.size_alloc])
          intro gg2 cap2 wk2 ho hw hat hlt1
          have hO2 : Hid (wk2.ownsRow W2.heap.size 2 1 (.slice (some ⟨gg2, 0, none⟩) (k + 1 + 1) cap2) (k + 1 + 1) (((out ++ [(i : Int)]) ++ [x]).map (Value.int .i64))) := by show World.ownsRow _ _ _ _ _ _ _; (first | (rw [List.map_append]; exact ho) | simpa using ho)
          have hB2 : Hid (Below W2.heap.size W2 wk2) := below_grown2 (hB1.out.alloc (by have := hB1.out.size; omega) (.cells #[.int .i64 x] 2)) hw (fun r e => (ownsRow_block2 hO1.out r e).1) (by have := hB1.out.size; simp only [World.size_alloc]; omega)
          clear ho hw hat hlt1 NEWS
          
          clear l3 l4 hO1 hB1
          go_wp2
          go_roundw
          case rel => exact ⟨k + 1, true, _, _, by omega, by go_num, rfl, rfl, hO2, hG1, hB2⟩
          case measure => simp [intOf]; omega
        · have hg' : ¬ ((i : Int) < x) := by omega
          have hG1 : Hid (givenF (i : Int) false (out ++ [x]) fs (k + 1)) := by
            obtain ⟨a1, a2⟩ := hG.out
            rw [HD.out, if_neg (by decide)] at a1
            refine ⟨?_, by simp only [List.length_append, List.length_singleton]; rw [a2]; rfl⟩
            rw [← a1, if_neg (by decide), giveF, if_neg hg']
            simp
          clear hG
          have hO0 : Hid (wr.ownsRow W2.heap.size 2 1 v k (out.map (Value.int .i64))) := hO
          clear hO
          have NEWS : Hid (∀ (t : Nat) (u : Value), ([.int .i64 x] : List Value)[t]? = some u → (wr.alloc (.cells #[.int .i64 x] 2)).cell? ((⟨wr.heap.size, 0, none⟩ : Addr).add t) = some u) := World.news_of_block (cs := #[.int .i64 x]) (t := 2) (fr := (0, 0)) (Lies.new wr 2 #[.int .i64 x])
          go_wp2_with (with_reducible refine wpList_append_lies _ rfl (.tmp 41) (.tmp 49) 23 rfl W2.heap.size 2 i0 (.int .i64 0) 1 8 Tryz.underlying23 IP.out.1 IP.out.2.1 IP.out.2.2.1 IP.out.2.2.2 rfl (by omega) v (k) (out.map (Value.int .i64)) rfl (hO0.out.alloc (.cells #[.int .i64 x] 2)) ⟨wr.heap.size, 0, none⟩ 1 1 [.int .i64 x] rfl rfl NEWS.out ?h3q2 (by omega) ?h3q3 ?h3q4 ?h3q5 (wr.heap.size + 1) ?h3q6 ?_)
          case h3q2 => simp [Value.oneCell']
          case h3q3 => unfold maxLen; omega
          case h3q4 => omega
          case h3q5 => (try simp only [World.size_alloc]); omega
          try (case h3q6 => simp only [World.size_alloc])
          intro gg2 cap2 wk2 ho hw hat hlt1
          have hO2 : Hid (wk2.ownsRow W2.heap.size 2 1 (.slice (some ⟨gg2, 0, none⟩) (k + 1) cap2) (k + 1) ((out ++ [x]).map (Value.int .i64))) := by show World.ownsRow _ _ _ _ _ _ _; (first | (rw [List.map_append]; exact ho) | simpa using ho)
          have hB2 : Hid (Below W2.heap.size W2 wk2) := below_grown2 (hB.out.alloc (by have := hB.out.size; omega) (.cells #[.int .i64 x] 2)) hw (fun r e => (ownsRow_block2 hO0.out r e).1) (by have := hB.out.size; simp only [World.size_alloc]; omega)
          clear ho hw hat hlt1 NEWS
          
          clear l1 oc2 hB hO0 SR
          go_wp2
          go_roundw
          case rel => exact ⟨k + 1, false, _, _, by omega, by go_num, rfl, rfl, hO2, hG1, hB2⟩
          case measure => simp [intOf]; omega
      · have hG1 : Hid (givenF (i : Int) true (out ++ [x]) fs (k + 1)) := by
          obtain ⟨a1, a2⟩ := hG.out
          rw [HD.out, if_pos rfl] at a1
          refine ⟨?_, by simp only [List.length_append, List.length_singleton]; rw [a2]; rfl⟩
          rw [← a1, if_pos rfl]
          simp
        clear hG
        have hO0 : Hid (wr.ownsRow W2.heap.size 2 1 v (k + 1) (out.map (Value.int .i64))) := hO
        clear hO
        have NEWS : Hid (∀ (t : Nat) (u : Value), ([.int .i64 x] : List Value)[t]? = some u → (wr.alloc (.cells #[.int .i64 x] 2)).cell? ((⟨wr.heap.size, 0, none⟩ : Addr).add t) = some u) := World.news_of_block (cs := #[.int .i64 x]) (t := 2) (fr := (0, 0)) (Lies.new wr 2 #[.int .i64 x])
        go_wp2_with (with_reducible refine wpList_append_lies _ rfl (.tmp 41) (.tmp 49) 23 rfl W2.heap.size 2 i0 (.int .i64 0) 1 8 Tryz.underlying23 IP.out.1 IP.out.2.1 IP.out.2.2.1 IP.out.2.2.2 rfl (by omega) v (k + 1) (out.map (Value.int .i64)) rfl (hO0.out.alloc (.cells #[.int .i64 x] 2)) ⟨wr.heap.size, 0, none⟩ 1 1 [.int .i64 x] rfl rfl NEWS.out ?h4q2 (by omega) ?h4q3 ?h4q4 ?h4q5 (wr.heap.size + 1) ?h4q6 ?_)
        case h4q2 => simp [Value.oneCell']
        case h4q3 => unfold maxLen; omega
        case h4q4 => omega
        case h4q5 => (try simp only [World.size_alloc]); omega
        try (case h4q6 => simp only [World.size_alloc])
        intro gg2 cap2 wk2 ho hw hat hlt1
        have hO2 : Hid (wk2.ownsRow W2.heap.size 2 1 (.slice (some ⟨gg2, 0, none⟩) (k + 1 + 1) cap2) (k + 1 + 1) ((out ++ [x]).map (Value.int .i64))) := by show World.ownsRow _ _ _ _ _ _ _; (first | (rw [List.map_append]; exact ho) | simpa using ho)
        have hB2 : Hid (Below W2.heap.size W2 wk2) := below_grown2 (hB.out.alloc (by have := hB.out.size; omega) (.cells #[.int .i64 x] 2)) hw (fun r e => (ownsRow_block2 hO0.out r e).1) (by have := hB.out.size; simp only [World.size_alloc]; omega)
        clear ho hw hat hlt1 NEWS
        
        clear l1 oc2 hB hO0 SR
        go_wp2
        go_roundw
        case rel => exact ⟨k + 1, true, _, _, by omega, by go_num, rfl, rfl, hO2, hG1, hB2⟩
        case measure => simp [intOf]; omega
    · have hkn : k = n2 := by omega
      subst hkn
      have hdrop : fs.drop k = [] := List.drop_eq_nil_of_le (by rw [HLF.out]; exact Nat.le_refl _)
      have FIN : ∀ (wz : World) (A' : Option Addr) (c' : Nat), Hid (wz.ownsRow W2.heap.size 2 1 (.slice A' (k + 1) c') (k + 1) ((giveF (i : Int) fs).map (Value.int .i64))) → Hid (Below W2.heap.size W2 wz) → SpAr (wz.setCell ⟨B, 2, none⟩ (.slice A' (k + 1) c')) base B d (some ⟨g, 0, none⟩) n1 c1 A' (k + 1) c' A3 n3 c3 (ns.set i ⟨0, 0, -1, none, 0, 0, []⟩) (giveF (i : Int) fs) rs ∧ Turned (fun x => x = B ∨ x = g) w (wz.setCell ⟨B, 2, none⟩ (.slice A' (k + 1) c')) := by
        intro wz A' c' h1 h2
        have h1' := h1.out
        have h2' := h2.out
        exact ⟨S3.out.free h2' h1' (by have := T3.out.2.1; omega), (T3.out.call2 h2').setCell (a := ⟨B, 2, none⟩) (Or.inl rfl) _⟩
      have HFIN := Lib.hid FIN
      clear FIN
      cases dn
      · have hE : Hid (out ++ [(i : Int)] = giveF (i : Int) fs) := by
          obtain ⟨a1, a2⟩ := hG.out
          rw [hdrop, if_neg (by decide)] at a1
          exact a1
        clear hG hdrop
        have hO0 : Hid (wr.ownsRow W2.heap.size 2 1 v k (out.map (Value.int .i64))) := hO
        clear hO
        have NEWS : Hid (∀ (t : Nat) (u : Value), ([.int .i64 (i : Int)] : List Value)[t]? = some u → (wr.alloc (.cells #[.int .i64 (i : Int)] 2)).cell? ((⟨wr.heap.size, 0, none⟩ : Addr).add t) = some u) := World.news_of_block (cs := #[.int .i64 (i : Int)]) (t := 2) (fr := (0, 0)) (Lies.new wr 2 #[.int .i64 (i : Int)])
        go_wp2_with (with_reducible refine wpList_append_lies _ rfl (.tmp 53) (.tmp 55) 23 rfl W2.heap.size 2 i0 (.int .i64 0) 1 8 Tryz.underlying23 IP.out.1 IP.out.2.1 IP.out.2.2.1 IP.out.2.2.2 rfl (by omega) v (k) (out.map (Value.int .i64)) rfl (hO0.out.alloc (.cells #[.int .i64 (i : Int)] 2)) ⟨wr.heap.size, 0, none⟩ 1 1 [.int .i64 (i : Int)] rfl rfl NEWS.out ?h5q2 (by omega) ?h5q3 ?h5q4 ?h5q5 (wr.heap.size + 1) ?h5q6 ?_)
        case h5q2 => simp [Value.oneCell']
        case h5q3 => unfold maxLen; omega
        case h5q4 => omega
        case h5q5 => (try simp only [World.size_alloc]); omega
        try (case h5q6 => simp only [World.size_alloc])
        intro gg1 cap1 wk1 ho hw hat hlt1
        have hO1 : Hid (wk1.ownsRow W2.heap.size 2 1 (.slice (some ⟨gg1, 0, none⟩) (k + 1) cap1) (k + 1) ((out ++ [(i : Int)]).map (Value.int .i64))) := by show World.ownsRow _ _ _ _ _ _ _; (first | (rw [List.map_append]; exact ho) | simpa using ho)
        have hB1 : Hid (Below W2.heap.size W2 wk1) := below_grown2 (hB.out.alloc (by have := hB.out.size; omega) (.cells #[.int .i64 (i : Int)] 2)) hw (fun r e => (ownsRow_block2 hO0.out r e).1) (by have := hB.out.size; simp only [World.size_alloc]; omega)
        clear ho hw hat hlt1 NEWS
        
        rw [hE.out] at hO1
        have HX := Lib.hid (HFIN.out _ _ _ hO1 hB1)
        have SR1 := Lib.hid (S3.out.kept hB1.out)
        have s0 : wk1.cell? ⟨B, 2, none⟩ = some (.slice A2 k c2) := SR1.out.o.cell 2
        have s1 : wk1.frozen? ⟨B, 2, none⟩ = false := SR1.out.o.thawed 2
        clear oc2 hB hO0 SR HFIN SR1
        go_wp2
        go_end0
        exact ⟨_, _, _, rfl, HX.out.1, rfl, HX.out.2⟩
      · have hE : Hid (out = giveF (i : Int) fs) := by
          obtain ⟨a1, a2⟩ := hG.out
          rw [hdrop, if_pos rfl, List.append_nil] at a1
          exact a1
        clear hG hdrop
        obtain ⟨A', c', hv⟩ := ownsRow_sliceA hO.out
        subst hv
        have hO0 : Hid (wr.ownsRow W2.heap.size 2 1 (.slice A' (k + 1) c') (k + 1) (out.map (Value.int .i64))) := hO
        rw [hE.out] at hO0
        have HX := Lib.hid (HFIN.out _ _ _ hO0 hB)
        have s1 : wr.frozen? ⟨B, 2, none⟩ = false := SR.out.o.thawed 2
        clear hO hB SR HFIN
        go_wp2
        go_end0
        exact ⟨_, _, _, rfl, HX.out.1, rfl, HX.out.2⟩

set_option maxRecDepth 100000 in
set_option maxHeartbeats 6400000 in
theorem l4Without_any (c : Int) (n cc : Nat) (A : Option Addr) (xs : List Int) (w : World) (hp : Ints w 0 A n xs) (hn : n ≤ 1048576) :
    Calls Tryz.prog 105 #[.slice A n cc, .int .i64 c] w fun e w' => ∃ A' m c', e = .returned (.slice A' m c') ∧ w'.ownsRow w.heap.size 2 1 (.slice A' m c') m ((xs.filter fun x => !(x == c)).map (Value.int .i64)) ∧ Below w.heap.size w w' := by
  have HP := Lib.hid hp
  have HL : Hid (xs.length = n) := hp.1
  obtain ⟨i0, hi0, hz0, hz1, hz2⟩ := info_parts'
  have IP := Lib.hid (And.intro hi0 (And.intro hz0 (And.intro hz1 hz2)))
  clear hi0 hz0 hz1 hz2 hp
  have ST : Hid ((w.alloc (.cells #[] 2)).ownsRow w.heap.size 2 1 (.slice (some ⟨w.heap.size, 0, none⟩) 0 0) 0 (([] : List Int).map (Value.int .i64))) := ⟨rfl, Or.inr ⟨w.heap.size, 0, #[], rfl, Nat.le_refl _, heap_alloc_new w _, Nat.le_refl _, Nat.zero_le _, rfl, rfl⟩⟩
  have B0 : Hid (Below w.heap.size w (w.alloc (.cells #[] 2))) := below_alloc w _
  go_enter Tryz.func105, Tryz.ntmps105
  go_wp2
  go_loopw [5, 6] (fun vo vk wr => ∃ (k m : Nat) (v : Value), k ≤ n ∧ m ≤ k ∧ vk = .int .i64 (k : Int) ∧ v = vo ∧ Hid (wr.ownsRow w.heap.size 2 1 v m (((xs.take k).filter fun x => !(x == c)).map (Value.int .i64))) ∧ Hid (Below w.heap.size w wr)) (fun _ vk _ => n - (intOf vk).toNat)
  case atStart => exact ⟨0, 0, _, Nat.zero_le _, Nat.zero_le _, rfl, rfl, by simpa using ST, B0⟩
  case round =>
    obtain ⟨k, m, v, hk, hm, rfl, rfl, hO, hB⟩ := hrel
    clear ST B0
    have wsz : w.heap.size ≤ wr.heap.size := hB.out.size
    by_cases hlt : k < n
    · obtain ⟨b, o, x, rfl, _, hb, d0, hx⟩ := HP.out.cellAt hlt
      have HX := Lib.hid hx.out
      have e0 : wr.cell? ⟨b, o + k, none⟩ = some (.int .i64 x) := (hB.out.cell (p := ⟨b, o + k, none⟩) (by show b < w.heap.size; omega)).trans d0
      have hlt' : (k : Int) < (n : Int) := by omega
      have HN := Lib.hid (filter_take_next (p := fun x => !(x == c)) hx.out)
      clear d0 hx
      by_cases hz : x = c
      · have hz1 : (x != c) = false := by simp [hz]
        have hO1 : Hid (wr.ownsRow w.heap.size 2 1 v m (((xs.take (k + 1)).filter fun x => !(x == c)).map (Value.int .i64))) := by
          show World.ownsRow _ _ _ _ _ _ _
          rw [HN.out]
          simpa [hz] using hO.out
        clear hO HN
        go_wp2
        go_roundw
        case rel => exact ⟨k + 1, m, _, by omega, by omega, by go_num, rfl, hO1, hB⟩
        case measure => simp [intOf]; omega
      · have hz1 : (x != c) = true := by simpa using hz
        have NEWS : Hid (∀ (t : Nat) (u : Value), ([.int .i64 x] : List Value)[t]? = some u → (wr.alloc (.cells #[.int .i64 x] 2)).cell? ((⟨wr.heap.size, 0, none⟩ : Addr).add t) = some u) := World.news_of_block (cs := #[.int .i64 x]) (t := 2) (fr := (0, 0)) (Lies.new wr 2 #[.int .i64 x])
        go_wp2_with (with_reducible refine wpList_append_lies _ rfl (.tmp 20) (.tmp 25) 23 rfl w.heap.size 2 i0 (.int .i64 0) 1 8 Tryz.underlying23 IP.out.1 IP.out.2.1 IP.out.2.2.1 IP.out.2.2.2 rfl (by omega) v (m) (((xs.take k).filter fun x => !(x == c)).map (Value.int .i64)) rfl (hO.out.alloc (.cells #[.int .i64 x] 2)) ⟨wr.heap.size, 0, none⟩ 1 1 [.int .i64 x] rfl rfl NEWS.out ?h6q2 (by omega) ?h6q3 ?h6q4 ?h6q5 (wr.heap.size + 1) ?h6q6 ?_)
        case h6q2 => simp [Value.oneCell']
        case h6q3 => unfold maxLen; omega
        case h6q4 => omega
        case h6q5 => (try simp only [World.size_alloc]); omega
        try (case h6q6 => simp only [World.size_alloc])
        intro gg1 cap1 wk1 ho hw hat hlt1
        have hO1 : Hid (wk1.ownsRow w.heap.size 2 1 (.slice (some ⟨gg1, 0, none⟩) (m + 1) cap1) (m + 1) ((((xs.take k).filter fun x => !(x == c)) ++ [x]).map (Value.int .i64))) := by show World.ownsRow _ _ _ _ _ _ _; (first | (rw [List.map_append]; exact ho) | simpa using ho)
        have hB1 : Hid (Below w.heap.size w wk1) := below_grown2 (hB.out.alloc (by have := hB.out.size; omega) (.cells #[.int .i64 x] 2)) hw (fun r e => (ownsRow_block2 hO.out r e).1) (by have := hB.out.size; simp only [World.size_alloc]; omega)
        clear ho hw hat hlt1 NEWS
        
        have hO2 : Hid (wk1.ownsRow w.heap.size 2 1 (.slice (some ⟨gg1, 0, none⟩) (m + 1) cap1) (m + 1) (((xs.take (k + 1)).filter fun x => !(x == c)).map (Value.int .i64))) := by
          show World.ownsRow _ _ _ _ _ _ _
          rw [HN.out]
          simpa [hz] using hO1.out
        clear hO HN e0 hB hO1
        go_wp2
        go_roundw
        case rel => exact ⟨k + 1, m + 1, _, by omega, by omega, by go_num, rfl, hO2, hB1⟩
        case measure => simp [intOf]; omega
    · have hkn : k = n := by omega
      subst hkn
      have hO1 := hO.out
      rw [List.take_of_length_le (by rw [HL.out]; exact Nat.le_refl _)] at hO1
      obtain ⟨A', c', hv⟩ := ownsRow_sliceA hO1
      subst hv
      have HO1 := Lib.hid hO1
      clear hO hO1
      go_wp2
      go_ret
      exact ⟨A', m, c', by simp, HO1.out, hB.out⟩

end Go.Proofs.YtpgoildfjkokiaaGreat
