/- The walks of spec.l4End and spec.EndWatch. -/
import Derived.Test.YtpgoildfjkokiaaGreatSpecRetire
import Derived.Test.YtpgoildfjkokiaaGreatEntryLists
import Derived.Test.YtpgoildfjkokiaaGreatArenaArg
import Derived.Test.YtpgoildfjkokiaaGreatNodeRes
namespace Go.Proofs.YtpgoildfjkokiaaGreat
open Go.RowKit

/-- Nobody is retired any more. -/
theorem SpAr.bare {w : World} {base B g n1 c1 n2 c2 n3 c3 : Nat} {d : Int} {A2 A3 : Option Addr} {ns : List NV} {fs : List Int} {rs : List RV} (h : SpAr w base B d (some ⟨g, 0, none⟩) n1 c1 A2 n2 c2 A3 n3 c3 ns fs rs) :
    SpAr (w.setCell ⟨B, 3, none⟩ (.slice none 0 0)) base B d (some ⟨g, 0, none⟩) n1 c1 A2 n2 c2 none 0 0 ns fs [] := by
  have keep : ∀ b, b ≠ B → (w.setCell ⟨B, 3, none⟩ (.slice none 0 0)).heap[b]? = w.heap[b]? := fun b hne => heap_setCell_other w ⟨B, 3, none⟩ b _ hne
  have hsz : w.heap.size ≤ (w.setCell ⟨B, 3, none⟩ (.slice none 0 0)).heap.size := Nat.le_of_eq (size_of_setCell _ _ _).symm
  refine ⟨Lies.set (w := w) h.o 3 _, ⟨?_, ?_, RetsOut.nil _ _, h.V.d, fun b e => by rcases e with e | e <;> simp [Value.ownBlock, rvsB] at e⟩, fun b e => ?_⟩
  · exact h.V.N.others hsz (fun b e => keep b (h.x b (Or.inl e))) (fun b e => keep b (h.x b (Or.inr (Or.inl e))))
  · exact ownsRow_others h.V.F (fun b e => keep b (h.x b (Or.inr (Or.inr (Or.inl e)))))
  · rcases e with e | e | e | e | e
    · exact h.x b (Or.inl e)
    · exact h.x b (Or.inr (Or.inl e))
    · exact h.x b (Or.inr (Or.inr (Or.inl e)))
    · simp [Value.ownBlock] at e
    · simp [rvsB] at e
theorem leftU_get {c : Int} {rs : List RV} {k : Nat} {r : RV} (h : rs[k]? = some r) : (leftU c (rs.map RV.val))[k]? = some (r.id, r.ws.filter (fun x => !(x == c))) := by
  unfold leftU
  rw [List.getElem?_map, List.getElem?_map, h]; rfl
theorem leftU_next {c : Int} {rs : List RV} {k : Nat} {r : RV} (h : rs[k]? = some r) : (leftU c (rs.map RV.val)).take (k + 1) = (leftU c (rs.map RV.val)).take k ++ [(r.id, r.ws.filter (fun x => !(x == c)))] := by
  rw [List.take_add_one, leftU_get h]; rfl

set_option maxRecDepth 100000 in
set_option maxHeartbeats 12800000 in
theorem l4End_any (d c : Int) (base B g n1 c1 n2 c2 n3 c3 : Nat) (A2 A3 : Option Addr) (ns : List NV) (fs : List Int) (rs : List RV) (w : World) (h : SpAr w base B d (some ⟨g, 0, none⟩) n1 c1 A2 n2 c2 A3 n3 c3 ns fs rs) (hn1 : n1 ≤ 40) (hsum : n2 + n3 ≤ 1048575) (hlo : base ≤ w.heap.size) (hbB : base ≤ B) (hin : ∀ r ∈ rs, 0 ≤ r.id ∧ r.id < (n1 : Int)) (hsm : ∀ r ∈ rs, r.n1 ≤ 10) :
    Calls Tryz.prog 68 #[.pointer (some ⟨B, 0, none⟩), .int .i64 c] w fun e w' => ∃ A2' n2' c2' A3' n3' c3' ns' rs', e = .returned noResult ∧ SpAr w' base B d (some ⟨g, 0, none⟩) n1 c1 A2' n2' c2' A3' n3' c3' ns' (relS (leftU c (rs.map RV.val)) fs) rs' ∧ ns'.map NV.val = relV (leftU c (rs.map RV.val)) (ns.map NV.val) ∧ rs'.map RV.val = relU (leftU c (rs.map RV.val)) ∧ n2' ≤ n2 + n3 ∧ n3' ≤ n3 ∧ Below base w w' := by
  have H := Lib.hid h
  have HIN := Lib.hid hin
  have HSM := Lib.hid hsm
  have hBi := h.o.inside
  have gsz := (h.V.inB g (Or.inl rfl)).2
  have glo := (h.V.inB g (Or.inl rfl)).1
  have HLR : Hid ((leftU c (rs.map RV.val)).length = n3) := by show _ = _; unfold leftU; rw [List.length_map, List.length_map]; exact h.V.R.len
  obtain ⟨l0, hl0, hy0, hy1, hy2⟩ := info_ret
  have LP := Lib.hid (And.intro hl0 (And.intro hy0 (And.intro hy1 hy2)))
  clear hl0 hy0 hy1 hy2
  have HOB : Hid (∀ b, ((Value.slice A3 n3 c3).ownBlock = some b ∨ b ∈ rvsB rs) → b < w.heap.size ∧ b ≠ B ∧ b ≠ g) := by
    intro b e
    have h1 : SpV.has (some ⟨g, 0, none⟩) n1 c1 A2 n2 c2 A3 n3 c3 ns rs b := by
      rcases e with e | e
      · exact Or.inr (Or.inr (Or.inr (Or.inl e)))
      · exact Or.inr (Or.inr (Or.inr (Or.inr e)))
    exact ⟨(h.V.inB b h1).2, h.x b h1, fun e2 => (h.V.e b e).1 (by rw [e2]; rfl)⟩
  have HRO := Lib.hid h.V.R
  have ac3 : w.cell? ⟨B, 3, none⟩ = some (.slice A3 n3 c3) := h.o.cell 3
  have af3 : w.frozen? ⟨B, 3, none⟩ = false := h.o.thawed 3
  have S0 := Lib.hid h.bare
  have B0 : Hid (Below base w (w.setCell ⟨B, 3, none⟩ (.slice none 0 0))) := ((Below.refl w.heap.size w).mono hlo).setCell (p := ⟨B, 3, none⟩) hbB _
  have O0 : Hid (∀ b, b < w.heap.size → b ≠ B → b ≠ g → (w.setCell ⟨B, 3, none⟩ (.slice none 0 0)).heap[b]? = w.heap[b]?) := fun b _ h2 _ => heap_setCell_other w ⟨B, 3, none⟩ b _ h2
  have A0 : Hid (∀ b, (Value.slice none 0 0).ownBlock = some b → w.heap.size ≤ b) := fun b e => by simp [Value.ownBlock] at e
  have V0 : Hid (ns.map NV.val = relV ((leftU c (rs.map RV.val)).take 0) (ns.map NV.val)) := rfl
  have U0 : Hid (([] : List RV).map RV.val = relU ((leftU c (rs.map RV.val)).take 0)) := rfl
  clear h hin hsm
  go_enter Tryz.func68, Tryz.ntmps68
  go_wp2
  clear ac3 af3
  go_loopw [5, 6] (fun vk _ wr => ∃ (k : Nat) (A2' : Option Addr) (n2' c2' : Nat) (A3' : Option Addr) (n3' c3' : Nat) (ns' : List NV) (rs' : List RV), k ≤ n3 ∧ vk = .int .i64 (k : Int) ∧ Hid (SpAr wr base B d (some ⟨g, 0, none⟩) n1 c1 A2' n2' c2' A3' n3' c3' ns' (relS ((leftU c (rs.map RV.val)).take k) fs) rs') ∧ Hid (ns'.map NV.val = relV ((leftU c (rs.map RV.val)).take k) (ns.map NV.val)) ∧ Hid (rs'.map RV.val = relU ((leftU c (rs.map RV.val)).take k)) ∧ n2' ≤ n2 + k ∧ n3' ≤ k ∧ Hid (∀ b, b < w.heap.size → b ≠ B → b ≠ g → wr.heap[b]? = w.heap[b]?) ∧ Hid (Below base w wr) ∧ w.heap.size ≤ wr.heap.size ∧ Hid (∀ b, (Value.slice A3' n3' c3').ownBlock = some b → w.heap.size ≤ b)) (fun vk _ _ => n3 - (intOf vk).toNat)
  case atStart => exact ⟨0, A2, n2, c2, none, 0, 0, ns, [], Nat.zero_le _, rfl, S0, V0, U0, Nat.le_refl _, Nat.le_refl _, O0, B0, Nat.le_of_eq (size_of_setCell _ _ _).symm, A0⟩
  case round =>
    obtain ⟨k, A2', n2', c2', A3', n3', c3', ns', rs', hk, rfl, hS, hV, hU, hn2', hn3', hOld, hB, hwr, hA3⟩ := hrel
    clear S0 B0 O0 A0 V0 U0
    have hlr : base ≤ wr.heap.size := Nat.le_trans hlo hwr
    by_cases hlt : k < n3
    · have HRW := Lib.hid (HRO.out.others (fun b e => by have := HOB.out b (Or.inl e); exact hOld.out b this.1 this.2.1 this.2.2) (fun b e => by have := HOB.out b (Or.inr e); exact hOld.out b this.1 this.2.1 this.2.2))
      obtain ⟨b, o, id, X1, k1, e1, ws, hA3e, hb, d0, d1, hx, hI, hk1⟩ := (HRW.out.rets HSM.out).cellAt hlt
      have hbo := HOB.out b (Or.inl (by obtain ⟨g9, e9, e8, _⟩ := owned_at HRW.out.S (by omega); rw [hA3e] at e9; injection e9 with e9; injection e9 with e9; rw [e8, e9]))
      subst hA3e
      have HX := Lib.hid hx.out
      have hk10 := HSM.out _ (List.mem_of_getElem? hx.out)
      obtain ⟨i0', i1'⟩ := HIN.out _ (List.mem_of_getElem? hx.out)
      simp only at hk10 i0' i1'
      obtain ⟨i, rfl⟩ := Int.eq_ofNat_of_zero_le i0'
      have hi : i < n1 := by omega
      have hlt' : (k : Int) < (n3 : Int) := by omega
      have HNX := Lib.hid (leftU_next (c := c) hx.out)
      clear hx
      go_wp2_with fail
      refine (l4Without_any c k1 e1 X1 ws _ hI.out (by omega)).mono ?_
      rintro e W1 ⟨A9, m, c9, rfl, hO9', b1⟩
      have hO9 := Lib.hid hO9'
      have hml : (ws.filter fun x => !(x == c)).length = m := by have h1 := hO9'.1; rw [List.length_map] at h1; omega
      have HB1 := Lib.hid b1
      have SW1 := Lib.hid (hS.out.kept b1)
      have sW1 := b1.size
      have rc : W1.cell? ⟨b, o + k * 2, none⟩ = some (.int .i64 (i : Int)) := (b1.cell (p := ⟨b, o + k * 2, none⟩) hb).trans d0
      clear hO9' b1 d0 d1 hI HRW
      cases he : (ws.filter fun x => !(x == c)).isEmpty
      rotate_left
      · have hm0 : ((m : Int) == 0) = true := by
          rw [List.isEmpty_iff] at he
          rw [he] at hml
          simp only [List.length_nil] at hml
          rw [← hml]; rfl
        have HEM := Lib.hid he
        clear he hml
        go_wp2_with fail
        refine (l4Give_any d base B g n1 c1 n2' c2' n3' c3' i A2' A3' ns' _ rs' _ SW1.out hi hn1 (by omega) (by omega)).mono ?_
        rintro e W2 ⟨A2n, c2n, q, rfl, hS2, hq2, hT2⟩
        have hs2 := hT2.2.1
        have HS2 : Hid (SpAr W2 base B d (some ⟨g, 0, none⟩) n1 c1 A2n (n2' + 1) c2n A3' n3' c3' (ns'.set i q) (relS ((leftU c (rs.map RV.val)).take (k + 1)) fs) rs') := by
          show SpAr _ _ _ _ _ _ _ _ _ _ _ _ _ _ _ _
          rw [HNX.out, relS_snoc, if_pos HEM.out]; exact hS2
        have HV2 : Hid ((ns'.set i q).map NV.val = relV ((leftU c (rs.map RV.val)).take (k + 1)) (ns.map NV.val)) := by
          show _ = _
          rw [HNX.out, relV_snoc, if_pos HEM.out, List.map_set, hV.out, hq2, Int.toNat_natCast]
        have HU2 : Hid (rs'.map RV.val = relU ((leftU c (rs.map RV.val)).take (k + 1))) := by
          show _ = _
          rw [HNX.out, relU_snoc, if_pos HEM.out]; exact hU.out
        have HB2 : Hid (Below base w W2) := (hB.out.trans (HB1.out.mono hlr)).trans (hT2.1 base (fun x hx => by rcases hx with rfl | rfl <;> omega) (by omega))
        have HO2 : Hid (∀ b, b < w.heap.size → b ≠ B → b ≠ g → W2.heap[b]? = w.heap[b]?) := fun b h1 h2 h3 => (hT2.2.2 b (by omega) (by rintro (e | e); exact h2 e; exact h3 e)).trans ((HB1.out.block b (by omega)).trans (hOld.out b h1 h2 h3))
        clear hS2 hq2 hT2 hS hV hU hB hOld HB1 SW1 hO9 rc
        go_wp2
        go_roundw
        case rel => exact ⟨k + 1, A2n, n2' + 1, c2n, A3', n3', c3', _, rs', by omega, by go_num, HS2, HV2, HU2, by omega, by omega, HO2, HB2, by omega, hA3⟩
        case measure => simp [intOf]; omega
      · have hm0 : ((m : Int) == 0) = false := by
          rw [beq_eq_false_iff_ne]
          intro e
          have h1 : (ws.filter fun x => !(x == c)).length = 0 := by omega
          rw [List.isEmpty_eq_false_iff] at he
          exact he (List.eq_nil_of_length_eq_zero h1)
        have HEM := Lib.hid he
        have oc3 : W1.drew.cell? ⟨B, 3, none⟩ = some (.slice A3' n3' c3') := SW1.out.drew.o.cell 3
        have rc0 : W1.drew.cell? ⟨b, o + k * 2, none⟩ = some (.int .i64 (i : Int)) := rc
        have zd := size_of_drew
        clear he hml
        go_upto_region 8 with fail
        refine wp_region_last 16 (fun w' => w'.cell? ⟨B, 3, none⟩ = some (.slice A3' n3' c3') ∧ w'.cell? ⟨b, o + k * 2, none⟩ = some (.int .i64 (i : Int))) (by kernel_rfl) (⟨oc3, rc0⟩) (fun hHeld => ?_)
        apply wpAnyL_take (i := 0)
        · simp only [List.getElem?_toArray, List.getElem?_cons_succ, List.getElem?_cons_zero]; exact rfl
        refine ⟨⟨by kernel_rfl, by kernel_rfl, by kernel_rfl, by kernel_rfl, by kernel_rfl⟩, fun _ _ _ h => h, ?_, hHeld, ?_⟩
        · intro w hSw; (try dsimp only at hSw); go_simp; all_goals (with_reducible rfl)
        (try simp only [Act.put, List.setIfInBounds_toArray, List.set_cons_zero, List.set_cons_succ])
        apply wpAnyL_take (i := 1)
        · simp only [List.getElem?_toArray, List.getElem?_cons_succ, List.getElem?_cons_zero]; exact rfl
        refine ⟨⟨by kernel_rfl, by kernel_rfl, by kernel_rfl, by kernel_rfl, by kernel_rfl⟩, fun _ _ _ h => h, ?_, hHeld, ?_⟩
        · intro w hSw; (try dsimp only at hSw); go_simp; all_goals (with_reducible rfl)
        (try simp only [Act.put, List.setIfInBounds_toArray, List.set_cons_zero, List.set_cons_succ])
        apply wpAnyL_take (i := 2)
        · simp only [List.getElem?_toArray, List.getElem?_cons_succ, List.getElem?_cons_zero]; exact rfl
        refine ⟨⟨by kernel_rfl, by kernel_rfl, by kernel_rfl, by kernel_rfl, by kernel_rfl⟩, fun _ _ _ h => h, ?_, hHeld, ?_⟩
        · intro w hSw; (try dsimp only at hSw); go_simp; all_goals (with_reducible rfl)
        (try simp only [Act.put, List.setIfInBounds_toArray, List.set_cons_zero, List.set_cons_succ])
        apply wpAnyL_take (i := 3)
        · simp only [List.getElem?_toArray, List.getElem?_cons_succ, List.getElem?_cons_zero]; exact rfl
        refine ⟨⟨by kernel_rfl, by kernel_rfl, by kernel_rfl, by kernel_rfl, by kernel_rfl⟩, fun _ _ _ h => h, ?_, hHeld, ?_⟩
        · intro w hSw; (try dsimp only at hSw); go_simp; all_goals (with_reducible rfl)
        (try simp only [Act.put, List.setIfInBounds_toArray, List.set_cons_zero, List.set_cons_succ])
        apply wpAnyL_take (i := 4)
        · simp only [List.getElem?_toArray, List.getElem?_cons_succ, List.getElem?_cons_zero]; exact rfl
        refine ⟨⟨by kernel_rfl, by kernel_rfl, by kernel_rfl, by kernel_rfl, by kernel_rfl⟩, fun _ _ _ h => h, ?_, hHeld, ?_⟩
        · intro w hSw; (try dsimp only at hSw); go_simp; all_goals (with_reducible rfl)
        (try simp only [Act.put, List.setIfInBounds_toArray, List.set_cons_zero, List.set_cons_succ])
        apply wpAnyL_take (i := 5)
        · simp only [List.getElem?_toArray, List.getElem?_cons_succ, List.getElem?_cons_zero]; exact rfl
        refine ⟨⟨by kernel_rfl, by kernel_rfl, by kernel_rfl, by kernel_rfl, by kernel_rfl⟩, fun _ _ _ h => h, ?_, hHeld, ?_⟩
        · intro w hSw; (try dsimp only at hSw); go_simp; all_goals (with_reducible rfl)
        (try simp only [Act.put, List.setIfInBounds_toArray, List.set_cons_zero, List.set_cons_succ])
        apply wpAnyL_take (i := 6)
        · simp only [List.getElem?_toArray, List.getElem?_cons_succ, List.getElem?_cons_zero]; exact rfl
        refine ⟨⟨by kernel_rfl, by kernel_rfl, by kernel_rfl, by kernel_rfl, by kernel_rfl⟩, fun _ _ _ h => h, ?_, hHeld, ?_⟩
        · intro w hSw; (try dsimp only at hSw); go_simp; all_goals (with_reducible rfl)
        (try simp only [Act.put, List.setIfInBounds_toArray, List.set_cons_zero, List.set_cons_succ])
        apply wpAnyL_take (i := 7)
        · simp only [List.getElem?_toArray, List.getElem?_cons_succ, List.getElem?_cons_zero]; exact rfl
        refine ⟨⟨by kernel_rfl, by kernel_rfl, by kernel_rfl, by kernel_rfl, by kernel_rfl⟩, fun _ _ _ h => h, ?_, hHeld, ?_⟩
        · intro w hSw; (try dsimp only at hSw); go_simp; all_goals (with_reducible rfl)
        (try simp only [Act.put, List.setIfInBounds_toArray, List.set_cons_zero, List.set_cons_succ])
        apply wpAnyL_take (i := 8)
        · simp only [List.getElem?_toArray, List.getElem?_cons_succ, List.getElem?_cons_zero]; exact rfl
        refine ⟨⟨by kernel_rfl, by kernel_rfl, by kernel_rfl, by kernel_rfl, by kernel_rfl⟩, fun _ _ _ h => h, ?_, hHeld, ?_⟩
        · intro w hSw; (try dsimp only at hSw); go_simp; all_goals (with_reducible rfl)
        (try simp only [Act.put, List.setIfInBounds_toArray, List.set_cons_zero, List.set_cons_succ])
        apply wpAnyL_take (i := 9)
        · simp only [List.getElem?_toArray, List.getElem?_cons_succ, List.getElem?_cons_zero]; exact rfl
        refine ⟨⟨by kernel_rfl, by kernel_rfl, by kernel_rfl, by kernel_rfl, by kernel_rfl⟩, fun _ _ _ h => h, ?_, hHeld, ?_⟩
        · intro w hSw; (try dsimp only at hSw); go_simp; all_goals (with_reducible rfl)
        (try simp only [Act.put, List.setIfInBounds_toArray, List.set_cons_zero, List.set_cons_succ])
        apply wpAnyL_take (i := 10)
        · simp only [List.getElem?_toArray, List.getElem?_cons_succ, List.getElem?_cons_zero]; exact rfl
        refine ⟨⟨by kernel_rfl, by kernel_rfl, by kernel_rfl, by kernel_rfl, by kernel_rfl⟩, fun _ _ _ h => h, ?_, hHeld, ?_⟩
        · intro w hSw; (try dsimp only at hSw); go_simp; all_goals (with_reducible rfl)
        (try simp only [Act.put, List.setIfInBounds_toArray, List.set_cons_zero, List.set_cons_succ])
        apply wpAnyL_take (i := 11)
        · simp only [List.getElem?_toArray, List.getElem?_cons_succ, List.getElem?_cons_zero]; exact rfl
        refine ⟨⟨by kernel_rfl, by kernel_rfl, by kernel_rfl, by kernel_rfl, by kernel_rfl⟩, fun _ _ _ h => h, ?_, hHeld, ?_⟩
        · intro w hSw; (try dsimp only at hSw); go_simp; all_goals (with_reducible rfl)
        (try simp only [Act.put, List.setIfInBounds_toArray, List.set_cons_zero, List.set_cons_succ])
        apply wpAnyL_one (i := 12)
        · simp only [List.getElem?_toArray, List.getElem?_cons_succ, List.getElem?_cons_zero]; exact rfl
        refine ⟨by kernel_rfl, fun K hK => ?_⟩
        go_simp
        have bA := below_alloc W1.drew (.cells #[.int .i64 (i : Int), .slice A9 m c9] 123)
        have hS_12 := (And.intro ((bA.cell (p := ⟨B, 3, none⟩) (by simp only [size_of_drew]; show B < _; omega)).trans hHeld.1) ((bA.cell (p := ⟨b, o + k * 2, none⟩) (by simp only [size_of_drew]; show b < _; omega)).trans hHeld.2))
        refine hK.out _ _ (fun _ => hS_12) ?_
        clear hK K
        (try simp only [Act.put, List.setIfInBounds_toArray, List.set_cons_zero, List.set_cons_succ])
        apply wpAnyL_one (i := 13)
        · simp only [List.getElem?_toArray, List.getElem?_cons_succ, List.getElem?_cons_zero]; exact rfl
        refine ⟨by kernel_rfl, fun K hK => ?_⟩
        apply step_append_lies (s := .tmp 41) (x := .tmp 49) (t := 24) (base := base) (e := 123) (i := l0) (z := .agg #[.int .i64 0, .slice none 0 0]) (size := 2) (bytes := 32) (v := .slice A3' n3' c3') (n := n3') (xs := rs'.flatMap RV.cells) (ad := ⟨W1.heap.size, 0, none⟩) (m := 1) (c := 1) (news := [.int .i64 (i : Int), .slice A9 m c9]) (H := W1.heap.size + 1)
        case hgd => rfl
        case ho => rfl
        case ht => exact Tryz.underlying24
        case hi => exact LP.out.1
        case hz => exact LP.out.2.1
        case hsize => exact LP.out.2.2.1
        case hby => exact LP.out.2.2.2
        case hzs => rfl
        case hsz => omega
        case hs => rfl
        case hown => exact SW1.out.drew.V.R.S.alloc _
        case hx => rfl
        case hl => rfl
        case hnews => exact World.news_of_block (cs := #[.int .i64 (i : Int), .slice A9 m c9]) (t := 123) (fr := (0, 0)) (Lies.new W1.drew 123 #[.int .i64 (i : Int), .slice A9 m c9])
        case h1 => simp [Value.oneCell']
        case hm => omega
        case h63 => unfold maxLen; omega
        case hbytes => omega
        case hbase => simp only [World.size_alloc, size_of_drew]; omega
        case hH => simp only [World.size_alloc, size_of_drew]
        intro gg cap w1 hown1 hgrow hat hlt1
        have hbA : Below wr.heap.size wr (W1.drew.alloc (.cells #[.int .i64 (i : Int), .slice A9 m c9] 123)) := (HB1.out.trans (Below.refl _ _).drew).alloc (by simp only [size_of_drew]; exact HB1.out.size) _
        have hS2 := Lib.hid (SpAr.put (q := ⟨(i : Int), A9, m, c9, ws.filter (fun x => !(x == c))⟩) hS.out hbA (hO9.out.drew.alloc _) hlr hown1 hgrow (hat.imp _root_.id fun h => by (try simp only [World.size_alloc, size_of_drew]); omega))
        have hB2 : Hid (Below base w (w1.setCell ⟨B, 3, none⟩ (.slice (some ⟨gg, 0, none⟩) (n3' + 1) cap))) := (below_grown2 (hB.out.trans (hbA.mono hlr)) hgrow (fun r e => (ownsRow_block2 SW1.out.V.R.S r e).1) (by simp only [World.size_alloc, size_of_drew]; omega)).setCell (p := ⟨B, 3, none⟩) hbB _
        have hgz := hgrow.size
        simp only [World.size_alloc, size_of_drew] at hgz
        have hOld2 : Hid (∀ b, b < w.heap.size → b ≠ B → b ≠ g → (w1.setCell ⟨B, 3, none⟩ (.slice (some ⟨gg, 0, none⟩) (n3' + 1) cap)).heap[b]? = w.heap[b]?) := fun b h1 h2 h3 =>
          (heap_setCell_other w1 ⟨B, 3, none⟩ b _ h2).trans ((hgrow.block b (by simp only [World.size_alloc, size_of_drew]; omega) (fun e => by have := hA3.out b e.symm; omega)).trans ((hbA.block b (by omega)).trans (hOld.out b h1 h2 h3)))
        have hA32 : Hid (∀ b, (Value.slice (some (⟨gg, 0, none⟩ : Addr)) (n3' + 1) cap).ownBlock = some b → w.heap.size ≤ b) := fun b e => by
          have e2 : gg = b := by simpa [Value.ownBlock] using e
          subst e2
          rcases hat with hat | hat
          · exact hA3.out gg hat
          · omega
        have LM := Lib.hid ((SW1.out.drew.alloc (.cells #[.int .i64 (i : Int), .slice A9 m c9] 123)).mid hgrow)
        have s0 : w1.cell? ⟨B, 3, none⟩ = some (.slice A3' n3' c3') := LM.out.cell 3
        have s1 : w1.frozen? ⟨B, 3, none⟩ = false := LM.out.thawed 3
        have s2 : w1.cell? ⟨b, o + k * 2, none⟩ = some (.int .i64 (i : Int)) := (World.grownBy.cell_far hgrow ⟨b, o + k * 2, none⟩ (by simp only [World.size_alloc, size_of_drew]; show b < _; omega) (fun e => by have h1 := hA3.out b e.symm; omega)).trans hS_12.2
        have hS_13 := And.intro s0 s2
        refine hK.out _ _ (fun _ => hS_13) ?_
        clear hK K
        (try simp only [Act.put, List.setIfInBounds_toArray, List.set_cons_zero, List.set_cons_succ])
        apply wpAnyL_one (i := 14)
        · simp only [List.getElem?_toArray, List.getElem?_cons_succ, List.getElem?_cons_zero]; exact rfl
        refine ⟨by kernel_rfl, fun K hK => ?_⟩
        go_simp
        have hS_14 := hS_13
        refine hK.out _ _ (fun _ => hS_14) ?_
        clear hK K
        (try simp only [Act.put, List.setIfInBounds_toArray, List.set_cons_zero, List.set_cons_succ])
        apply wpAnyL_one (i := 15)
        · simp only [List.getElem?_toArray, List.getElem?_cons_succ, List.getElem?_cons_zero]; exact rfl
        refine ⟨by kernel_rfl, fun K hK => ?_⟩
        go_simp
        have hS_15 := hS_14
        refine hK.out _ _ (fun _ => hS_15) ?_
        clear hK K
        (try simp only [Act.put, List.setIfInBounds_toArray, List.set_cons_zero, List.set_cons_succ])
        apply wpAnyL_one (i := 16)
        · simp only [List.getElem?_toArray, List.getElem?_cons_succ, List.getElem?_cons_zero]; exact rfl
        refine ⟨by kernel_rfl, fun K hK => ?_⟩
        go_simp
        refine hK.out _ _ (fun h => absurd rfl h) ?_
        clear hK K
        refine wpAnyL_done (by kernel_rfl) ?_ _
        have HS2 : Hid (SpAr (w1.setCell ⟨B, 3, none⟩ (.slice (some ⟨gg, 0, none⟩) (n3' + 1) cap)) base B d (some ⟨g, 0, none⟩) n1 c1 A2' n2' c2' (some ⟨gg, 0, none⟩) (n3' + 1) cap ns' (relS ((leftU c (rs.map RV.val)).take (k + 1)) fs) (rs' ++ [⟨(i : Int), A9, m, c9, ws.filter (fun x => !(x == c))⟩])) := by
          show SpAr _ _ _ _ _ _ _ _ _ _ _ _ _ _ _ _
          rw [HNX.out, relS_snoc, if_neg (by simp only [HEM.out]; decide)]; exact hS2.out
        have HV2 : Hid (ns'.map NV.val = relV ((leftU c (rs.map RV.val)).take (k + 1)) (ns.map NV.val)) := by
          show _ = _
          rw [HNX.out, relV_snoc, if_neg (by simp only [HEM.out]; decide)]; exact hV.out
        have HU2 : Hid ((rs' ++ [(⟨(i : Int), A9, m, c9, ws.filter (fun x => !(x == c))⟩ : RV)]).map RV.val = relU ((leftU c (rs.map RV.val)).take (k + 1))) := by
          show _ = _
          rw [HNX.out, relU_snoc, if_neg (by simp only [HEM.out]; decide), List.map_append, hU.out]; rfl
        have hwz : w.heap.size ≤ (w1.setCell ⟨B, 3, none⟩ (.slice (some ⟨gg, 0, none⟩) (n3' + 1) cap)).heap.size := by rw [size_of_setCell]; omega
        clear hS2 hS hV hU hB hOld HB1 SW1 hO9 rc rc0 oc3 s0 s1 s2 LM hHeld hS_12 hS_13 hS_14 hS_15 hA3
        go_wp2
        go_roundw
        case rel => exact ⟨k + 1, A2', n2', c2', some ⟨gg, 0, none⟩, n3' + 1, cap, ns', _, by omega, by go_num, HS2, HV2, HU2, by omega, by omega, hOld2, hB2, hwz, hA32⟩
        case measure => simp [intOf]; omega
    · have hkn : k = n3 := by omega
      have HT : (leftU c (rs.map RV.val)).take k = leftU c (rs.map RV.val) := List.take_of_length_le (by rw [HLR.out]; omega)
      have hS2 := hS.out
      have hV2 := hV.out
      have hU2 := hU.out
      rw [HT] at hS2 hV2 hU2
      have HS2 := Lib.hid hS2
      have HV2 := Lib.hid hV2
      have HU2 := Lib.hid hU2
      clear hS hV hU hS2 hV2 hU2 HT
      go_wp2
      go_end0
      exact ⟨A2', n2', c2', A3', n3', c3', ns', rs', rfl, HS2.out, HV2.out, HU2.out, by omega, by omega, hB.out⟩

set_option maxRecDepth 100000 in
set_option maxHeartbeats 12800000 in
theorem specEndWatch_any (d cl : Int) (n1 c1 n2 c2 n3 c3 : Nat) (A1 A2 A3 : Option Addr) (ns : List NV) (fs : List Int) (rs : List RV) (w : World) (hp : ArenaL w A1 A2 A3 n1 n2 n3 ns fs rs) (hc1 : n1 ≤ c1) (hcm : c1 ≤ maxLen) (hfew : n1 + n2 + n3 ≤ 1048576) :
    Calls Tryz.prog 29 #[.agg #[.int .i64 d, .slice A1 n1 c1, .slice A2 n2 c2, .slice A3 n3 c3], .int .i64 cl] w (SpPost (endR d (ns.map NV.val) fs (rs.map RV.val) cl) w) := by
  have m2 : n2 ≤ 1048576 := by omega
  have m3 : n3 ≤ 1048576 := by omega
  have HP := Lib.hid hp
  have m1 := hp.m1
  have HL : Hid ((ns.map NV.val).length = n1) := by show List.length _ = n1; rw [List.length_map]; exact hp.N.1
  clear hp
  have B := Lib.hid (below_alloc w (.cells #[.int .i64 d, .slice A1 n1 c1, .slice A2 n2 c2, .slice A3 n3 c3] 26))
  replace B := Lib.hid (B.out.alloc B.out.size (.cells #[.int .i64 0, .int .i64 0, .slice none 0 0, .slice none 0 0, .slice none 0 0, .int .i64 0] 53))
  have L_a := Lib.hid ((Lies.new w 26 #[.int .i64 d, .slice A1 n1 c1, .slice A2 n2 c2, .slice A3 n3 c3]).alloc (.cells #[.int .i64 0, .int .i64 0, .slice none 0 0, .slice none 0 0, .slice none 0 0, .int .i64 0] 53))
  have L_r := Lib.hid (Lies.new (w.alloc (.cells #[.int .i64 d, .slice A1 n1 c1, .slice A2 n2 c2, .slice A3 n3 c3] 26)) 53 #[.int .i64 0, .int .i64 0, .slice none 0 0, .slice none 0 0, .slice none 0 0, .int .i64 0])
  simp only [World.size_alloc] at L_r
  go_enter Tryz.func29, Tryz.ntmps29
  go_wp2_with fail
  refine (specArenaFault_any d n1 c1 n2 c2 n3 c3 A1 A2 A3 ns fs rs _ (HP.out.kept B.out) hc1 hcm).mono ?_
  rintro e W1 ⟨rfl, b1⟩
  replace L_r := Lib.hid (L_r.out.kept b1 L_r.out.inside)
  replace L_a := Lib.hid (L_a.out.kept b1 L_a.out.inside)
  replace B := Lib.hid (B.out.trans (b1.mono B.out.size))
  clear b1
  by_cases hz : arenaF d (ns.map NV.val) fs (rs.map RV.val) = 0
  rotate_left
  · have hz1 : (arenaF d (ns.map NV.val) fs (rs.map RV.val) != 0) = true := by simpa using hz
    have HR := Lib.hid (endR_arena (c := cl) hz)
    clear hz
    have z0 : W1.cell? ⟨w.heap.size + 1, 0, none⟩ = some (.int .i64 0) := L_r.out.cell 0
    have y0 : W1.frozen? ⟨w.heap.size + 1, 0, none⟩ = false := L_r.out.thawed 0
    have z1 : W1.cell? ⟨w.heap.size + 1, 1, none⟩ = some (.int .i64 0) := L_r.out.cell 1
    have y1 : W1.frozen? ⟨w.heap.size + 1, 1, none⟩ = false := L_r.out.thawed 1
    have z2 : W1.cell? ⟨w.heap.size + 1, 2, none⟩ = some (.slice none 0 0) := L_r.out.cell 2
    have y2 : W1.frozen? ⟨w.heap.size + 1, 2, none⟩ = false := L_r.out.thawed 2
    have z3 : W1.cell? ⟨w.heap.size + 1, 3, none⟩ = some (.slice none 0 0) := L_r.out.cell 3
    have y3 : W1.frozen? ⟨w.heap.size + 1, 3, none⟩ = false := L_r.out.thawed 3
    have z4 : W1.cell? ⟨w.heap.size + 1, 4, none⟩ = some (.slice none 0 0) := L_r.out.cell 4
    have y4 : W1.frozen? ⟨w.heap.size + 1, 4, none⟩ = false := L_r.out.thawed 4
    have z5 : W1.cell? ⟨w.heap.size + 1, 5, none⟩ = some (.int .i64 0) := L_r.out.cell 5
    have y5 : W1.frozen? ⟨w.heap.size + 1, 5, none⟩ = false := L_r.out.thawed 5
    go_wp2
    refine bodyPost_ret (v := .agg #[.int .i64 (arenaF d (ns.map NV.val) fs (rs.map RV.val)), .int .i64 0, .slice none 0 0, .slice none 0 0, .slice none 0 0, .int .i64 0]) (by simp [results, Tryz.results29, go_sem, z0, z1, z2, z3, z4, z5]) rfl ?_
    with_reducible refine SpPost.no HR.out ?_
    with_reducible (repeat (first | exact B.out | refine Below.setCell ?_ ?_ _))
    all_goals (show w.heap.size ≤ w.heap.size + 1; omega)
  have hz1 : (arenaF d (ns.map NV.val) fs (rs.map RV.val) != 0) = false := by simp [hz]
  have HZ := Lib.hid hz
  obtain ⟨hdd, hnn, hnz, hff, _⟩ := arenaF_zero hz
  have hn40 : n1 ≤ 40 := by rw [HL.out] at hnn; exact hnn.2
  have hn14 : 4 ≤ n1 := by rw [HL.out] at hnn; exact hnn.1
  have HNS : Hid (∀ q ∈ ns, q.n1 ≤ 6 ∧ LensE d.toNat (q.es.map EV.val)) := by
    intro q hq
    obtain ⟨k, hk⟩ := List.getElem?_of_mem hq
    obtain ⟨_, a2, a3, _, _⟩ := nodeF_zero (firstNZ_zero hnz k _ (nval_get hk))
    have h1 := (HP.out.N.2.2 q hq).1.1
    simp only [NV.val, List.length_map] at a2
    exact ⟨by omega, lens_of a3⟩
  have HRS : Hid (∀ q ∈ rs, q.n1 ≤ 10) := by
    intro q hq
    obtain ⟨k, hk⟩ := List.getElem?_of_mem hq
    have h1 := (retF_zero (firstNZ_zero (arenaF_zero HZ.out).2.2.2.2.1 k _ (rval_get hk))).2.2
    have h2 := (HP.out.R.2.2 q hq).1.1
    simp only [RV.val] at h1
    omega
  have HFL : Hid (fs.length = n2) := HP.out.F.1
  clear hz hnn hnz hff
  have HRET : Hid (∀ r ∈ rs, (0 ≤ r.id ∧ r.id < (n1 : Int)) ∧ r.ws.length ≤ 4) := by
    intro r hr
    obtain ⟨j, hj⟩ := List.getElem?_of_mem hr
    obtain ⟨⟨h0, h1⟩, _, h2⟩ := retF_zero (firstNZ_zero (arenaF_zero HZ.out).2.2.2.2.1 j _ (rval_get hj))
    rw [HL.out] at h1
    simp only [RV.val] at h0 h1 h2
    exact ⟨⟨h0, by omega⟩, h2⟩
  by_cases hc : 0 ≤ cl ∧ cl ≤ 3
  rotate_left
  · have HR : Hid (endR d (ns.map NV.val) fs (rs.map RV.val) cl = arNo 3) := endR_out HZ.out hc
    have HC := Lib.hid hc
    clear hc
    go_wp2_with fail
    refine (l1In_no _ _ _ _ HC.out).mono ?_
    rintro e w' ⟨rfl, rfl⟩
    have z0 : W1.cell? ⟨w.heap.size + 1, 0, none⟩ = some (.int .i64 0) := L_r.out.cell 0
    have y0 : W1.frozen? ⟨w.heap.size + 1, 0, none⟩ = false := L_r.out.thawed 0
    have z1 : W1.cell? ⟨w.heap.size + 1, 1, none⟩ = some (.int .i64 0) := L_r.out.cell 1
    have y1 : W1.frozen? ⟨w.heap.size + 1, 1, none⟩ = false := L_r.out.thawed 1
    have z2 : W1.cell? ⟨w.heap.size + 1, 2, none⟩ = some (.slice none 0 0) := L_r.out.cell 2
    have y2 : W1.frozen? ⟨w.heap.size + 1, 2, none⟩ = false := L_r.out.thawed 2
    have z3 : W1.cell? ⟨w.heap.size + 1, 3, none⟩ = some (.slice none 0 0) := L_r.out.cell 3
    have y3 : W1.frozen? ⟨w.heap.size + 1, 3, none⟩ = false := L_r.out.thawed 3
    have z4 : W1.cell? ⟨w.heap.size + 1, 4, none⟩ = some (.slice none 0 0) := L_r.out.cell 4
    have y4 : W1.frozen? ⟨w.heap.size + 1, 4, none⟩ = false := L_r.out.thawed 4
    have z5 : W1.cell? ⟨w.heap.size + 1, 5, none⟩ = some (.int .i64 0) := L_r.out.cell 5
    have y5 : W1.frozen? ⟨w.heap.size + 1, 5, none⟩ = false := L_r.out.thawed 5
    go_wp2
    refine bodyPost_ret (v := .agg #[.int .i64 (3), .int .i64 0, .slice none 0 0, .slice none 0 0, .slice none 0 0, .int .i64 0]) (by simp [results, Tryz.results29, go_sem, z0, z1, z2, z3, z4, z5]) rfl ?_
    with_reducible refine SpPost.no HR.out ?_
    with_reducible (repeat (first | exact B.out | refine Below.setCell ?_ ?_ _))
    all_goals (show w.heap.size ≤ w.heap.size + 1; omega)
  have HR := Lib.hid (endR_yes HZ.out hc)
  have HC := Lib.hid hc
  clear hc
  go_wp2_with fail
  refine (l1In_yes _ _ _ _ HC.out.1 HC.out.2).mono ?_
  rintro e w' ⟨rfl, rfl⟩
  go_wp2_with fail
  refine (l4Copy_any w.heap.size d.toNat n1 c1 n2 c2 n3 c3 d A1 A2 A3 ns fs rs _ L_a.out (HP.out.kept B.out) (by omega) (by omega) HNS.out HRS.out (by omega) m2 m3).mono ?_
  rintro e WC ⟨A1', c1', A2', c2', A3', c3', qs, ts, rfl, hV, hvs, hus, bc⟩
  have SB : Hid (SpAr (WC.alloc (.cells #[.int .i64 d, .slice A1' n1 c1', .slice A2' n2 c2', .slice A3' n3 c3'] 26)) W1.heap.size WC.heap.size d A1' n1 c1' A2' n2 c2' A3' n3 c3' qs fs ts) := hV.laid
  have hAO := owned_at hV.N.S (by omega)
  obtain ⟨g, rfl, _⟩ := hAO
  have sWC := bc.size
  have hri := L_r.out.inside
  have sWB := B.out.size
  replace L_r := Lib.hid (L_r.out.kept bc L_r.out.inside)
  replace L_a := Lib.hid (L_a.out.kept bc L_a.out.inside)
  replace B := Lib.hid (B.out.trans (bc.mono B.out.size))
  clear bc
  replace B := Lib.hid (B.out.alloc B.out.size (.cells #[.int .i64 d, .slice (some ⟨g, 0, none⟩) n1 c1', .slice A2' n2 c2', .slice A3' n3 c3'] 26))
  replace L_r := Lib.hid (L_r.out.alloc (.cells #[.int .i64 d, .slice (some ⟨g, 0, none⟩) n1 c1', .slice A2' n2 c2', .slice A3' n3 c3'] 26))
  have HVQ := Lib.hid hvs
  have HUQ := Lib.hid hus
  clear hV hvs hus
  have HTI : Hid (∀ r ∈ ts, (0 ≤ r.id ∧ r.id < (n1 : Int)) ∧ r.ws.length ≤ 4) := by
    intro r hr
    have h1 : r.val ∈ rs.map RV.val := by rw [← HUQ.out]; exact List.mem_map_of_mem hr
    obtain ⟨s, hs, hsv⟩ := List.mem_map.1 h1
    have h2 := HRET.out s hs
    have e1 : s.id = r.id := congrArg (fun v : RVal => v.1) hsv
    have e2 : s.ws = r.ws := congrArg (fun v : RVal => v.2) hsv
    rw [e1, e2] at h2; exact h2
  have HTM : Hid (∀ r ∈ ts, r.n1 ≤ 10) := by
    intro r hr
    have h1 := (SB.out.V.R.Q r hr).1
    have h2 := (HTI.out r hr).2
    simp only [List.length_map, Nat.mul_one] at h1
    omega
  go_wp2_with fail
  refine (l4End_any d cl W1.heap.size WC.heap.size g n1 c1' n2 c2' n3 c3' A2' A3' qs fs ts _ SB.out hn40 (by omega) (by simp only [World.size_alloc]; omega) sWC (fun r hr => (HTI.out r hr).1) HTM.out).mono ?_
  rintro e W4 ⟨A2n, n2n, c2n, A3n, n3n, c3n, nsn, rsn, rfl, hS4, hvn, hun, hn2n, hn3n, hb4⟩
  replace L_r := Lib.hid (show Lies W4 (w.heap.size + 1) 53 #[.int .i64 0, .int .i64 0, .slice none 0 0, .slice none 0 0, .slice none 0 0, .int .i64 0] from (hb4.block (w.heap.size + 1) (by omega)).trans L_r.out)
  replace B := Lib.hid (B.out.trans (hb4.mono (by omega)))
  rw [HUQ.out] at hS4 hvn hun
  rw [HVQ.out] at hvn
  have S4 := Lib.hid hS4
  have HVN := Lib.hid hvn
  have HUN := Lib.hid hun
  have HTS : Hid (∀ q ∈ rsn, q.n1 ≤ 10) := by
    intro q hq
    have h1 : q.val ∈ relU (leftU cl (rs.map RV.val)) := by rw [← HUN.out]; exact List.mem_map_of_mem hq
    have h5 := (S4.out.V.R.Q q hq).1
    simp only [List.length_map, Nat.mul_one] at h5
    obtain ⟨v, hv, hvq⟩ := List.mem_map.1 (List.mem_filter.1 h1).1
    obtain ⟨r, hr, hrv⟩ := List.mem_map.1 hv
    have h3 := (HRET.out r hr).2
    have e1 : r.ws = v.2 := congrArg (fun v : RVal => v.2) hrv
    have e2 : v.2.filter (fun x => !(x == cl)) = q.ws := congrArg (fun v : RVal => v.2) hvq
    have h6 : q.ws.length ≤ v.2.length := by rw [← e2]; exact List.length_filter_le _ _
    rw [← e1] at h6
    omega
  clear hS4 hvn hun hb4
  have o0 : W4.cell? ⟨WC.heap.size, 0, none⟩ = some (.int .i64 d) := S4.out.o.cell 0
  have o1 : W4.cell? ⟨WC.heap.size, 1, none⟩ = some (.slice (some ⟨g, 0, none⟩) n1 c1') := S4.out.o.cell 1
  have o2 : W4.cell? ⟨WC.heap.size, 2, none⟩ = some (.slice A2n n2n c2n) := S4.out.o.cell 2
  have o3 : W4.cell? ⟨WC.heap.size, 3, none⟩ = some (.slice A3n n3n c3n) := S4.out.o.cell 3
  have z0 : W4.cell? ⟨w.heap.size + 1, 0, none⟩ = some (.int .i64 0) := L_r.out.cell 0
  have y0 : W4.frozen? ⟨w.heap.size + 1, 0, none⟩ = false := L_r.out.thawed 0
  have z1 : W4.cell? ⟨w.heap.size + 1, 1, none⟩ = some (.int .i64 0) := L_r.out.cell 1
  have y1 : W4.frozen? ⟨w.heap.size + 1, 1, none⟩ = false := L_r.out.thawed 1
  have z2 : W4.cell? ⟨w.heap.size + 1, 2, none⟩ = some (.slice none 0 0) := L_r.out.cell 2
  have y2 : W4.frozen? ⟨w.heap.size + 1, 2, none⟩ = false := L_r.out.thawed 2
  have z3 : W4.cell? ⟨w.heap.size + 1, 3, none⟩ = some (.slice none 0 0) := L_r.out.cell 3
  have y3 : W4.frozen? ⟨w.heap.size + 1, 3, none⟩ = false := L_r.out.thawed 3
  have z4 : W4.cell? ⟨w.heap.size + 1, 4, none⟩ = some (.slice none 0 0) := L_r.out.cell 4
  have y4 : W4.frozen? ⟨w.heap.size + 1, 4, none⟩ = false := L_r.out.thawed 4
  have z5 : W4.cell? ⟨w.heap.size + 1, 5, none⟩ = some (.int .i64 0) := L_r.out.cell 5
  have y5 : W4.frozen? ⟨w.heap.size + 1, 5, none⟩ = false := L_r.out.thawed 5
  have AR := Lib.hid (S4.out.V)
  go_wp2
  refine bodyPost_ret (v := .agg #[.int .i64 0, .int .i64 d, .slice (some ⟨g, 0, none⟩) n1 c1', .slice A2n n2n c2n, .slice A3n n3n c3n, .int .i64 0]) (by simp [results, Tryz.results29, go_sem, z0, z1, z2, z3, z4, z5]) rfl ?_
  with_reducible refine SpPost.yes HR.out ?_ HVN.out HUN.out ?_
  · refine SpA.of (base := W1.heap.size) (c1 := c1') (c2 := c2n) (c3 := c3n) ?_ (by omega) (by omega) (by omega) HTS.out (by omega)
    with_reducible (repeat (first | exact AR.out | refine SpV.far ?_ ?_ _))
    all_goals (show w.heap.size + 1 < _; omega)
  · with_reducible (repeat (first | exact B.out | refine Below.setCell ?_ ?_ _))
    all_goals (show w.heap.size ≤ w.heap.size + 1; omega)

end Go.Proofs.YtpgoildfjkokiaaGreat

/- Entries of the call's own through draws, new blocks and calls. -/
namespace Go.Proofs.YtpgoildfjkokiaaGreat
open Go.RowKit

theorem EntriesOwn.drewO {w : World} {g n : Nat} {qs : List EV} (h : EntriesOwn w g n qs) : EntriesOwn w.drew g n qs := h
theorem EntriesOwn.allocO {w : World} {g n : Nat} {qs : List EV} (h : EntriesOwn w g n qs) (o : Obj) : EntriesOwn (w.alloc o) g n qs := h.kept (below_alloc _ _)
theorem EntriesOwn.callO {w w' : World} {g n : Nat} {qs : List EV} (h : EntriesOwn w g n qs) (hb : Below w.heap.size w w') : EntriesOwn w' g n qs := h.kept hb

end Go.Proofs.YtpgoildfjkokiaaGreat

/- A node that is an argument: how high it lies, that it stays where nothing of it is written; arenas of the call's own through draws and new blocks. -/
namespace Go.Proofs.YtpgoildfjkokiaaGreat
open Go.RowKit

def NHi (hi g : Nat) (qs : List EV) : Prop := g < hi ∧ ∀ q ∈ qs, ∀ b o, q.A2 = some ⟨b, o, none⟩ → b < hi
section
variable {w w' : World} {g n hi : Nat} {qs : List EV}
theorem EntriesOwn.high (h : EntriesOwn w g n qs) : NHi w.heap.size g qs := by
  refine ⟨h.inside, fun q hq b o e => ?_⟩
  obtain ⟨_, _, _, _, g1, g2, k5, k6, k7, k8, k9, k10⟩ := h.2.2 q hq
  rw [k6] at e; injection e with e; injection e with e
  have := k10.inside; omega
theorem EntriesOwn.anyH (h : EntriesOwn w g n qs) (hh : NHi hi g qs) : EntriesAny w g n hi qs := by
  obtain ⟨⟨f, h1, h2⟩, hl, h3⟩ := h
  refine ⟨⟨f, h1, fun j q hq => ⟨(h2 j q hq).1, (h2 j q hq).2.1⟩⟩, hh.1, fun q hq => ?_⟩
  obtain ⟨k1, k2, k3, k4, g1, g2, k5, k6, k7, k8, k9, k10⟩ := h3 q hq
  exact ⟨g1, g2, k5, k6, k7, k8, hh.2 q hq g2 0 k6, ⟨_, k9⟩, _, k10⟩
theorem EntriesOwn.others (h : EntriesOwn w g n qs) (hk : ∀ b, g ≤ b → b < w.heap.size → w'.heap[b]? = w.heap[b]?) : EntriesOwn w' g n qs := by
  obtain ⟨⟨f, h1, h2⟩, hl, h3⟩ := h
  refine ⟨⟨f, h1.of_block (hk g (Nat.le_refl _) h1.lt), h2⟩, hl, fun q hq => ?_⟩
  obtain ⟨k1, k2, k3, k4, g1, g2, k5, k6, k7, k8, k9, k10⟩ := h3 q hq
  exact ⟨k1, k2, k3, k4, g1, g2, k5, k6, k7, k8, ⟨k9.1, k9.2.of_block (hk g1 (by omega) k9.inside)⟩, ⟨k10.1, k10.2.of_block (hk g2 (by omega) k10.inside)⟩⟩
end
section
variable {w w' : World} {base g1 g2 g3 n1 n2 n3 : Nat} {ns : List NV} {fs : List Int} {rs : List RV}
/-- An arena of the call's own, wherever it lies. -/
def ArenaAt (w : World) (g1 g2 g3 n1 n2 n3 : Nat) (ns : List NV) (fs : List Int) (rs : List RV) : Prop := ∃ base, ArenaOwn w base g1 g2 g3 n1 n2 n3 ns fs rs
theorem ArenaAt.of (h : ArenaOwn w base g1 g2 g3 n1 n2 n3 ns fs rs) : ArenaAt w g1 g2 g3 n1 n2 n3 ns fs rs := ⟨base, h⟩
theorem ArenaAt.call' (h : ArenaAt w g1 g2 g3 n1 n2 n3 ns fs rs) (hb : Below w.heap.size w w') : ArenaAt w' g1 g2 g3 n1 n2 n3 ns fs rs := by obtain ⟨b, h⟩ := h; exact ⟨b, h.kept hb⟩
theorem ArenaAt.drew' (h : ArenaAt w g1 g2 g3 n1 n2 n3 ns fs rs) : ArenaAt w.drew g1 g2 g3 n1 n2 n3 ns fs rs := h.call' (Below.refl _ _).drew
theorem ArenaAt.alloc' (h : ArenaAt w g1 g2 g3 n1 n2 n3 ns fs rs) (o : Obj) : ArenaAt (w.alloc o) g1 g2 g3 n1 n2 n3 ns fs rs := h.call' (below_alloc w o)
theorem ArenaAt.arena (h : ArenaAt w g1 g2 g3 n1 n2 n3 ns fs rs) (s1 : n1 ≤ 1048576) (s2 : n2 ≤ 1048576) (s3 : n3 ≤ 1048576) : ArenaL w (some ⟨g1, 0, none⟩) (some ⟨g2, 0, none⟩) (some ⟨g3, 0, none⟩) n1 n2 n3 ns fs rs := by obtain ⟨b, h⟩ := h; exact h.arena s1 s2 s3
end

end Go.Proofs.YtpgoildfjkokiaaGreat
