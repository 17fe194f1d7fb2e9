/- The walks of impl.stockOf, of stock's pair and of impl.FindPair. -/
import Derived.Test.YtpgoildfjkokiabFindMath
import Derived.Test.YtpgoildfjkokiabBMap
import Derived.Test.YtpgoildfjkokiabImplModel
import Derived.Test.YtpgoildfjkokiabOrders
import Derived.Test.YtpgoildfjkokiabHeldLast
import Derived.Deep.RegionHeldLaw
import Derived.Deep.Cut
namespace Go.Proofs.Ytpgoildfjkokiab
open Go.RowKit Go.Maps

theorem run_makeMap_some (n : Nat) (w : World) : (Instr.makeMap 49 (some (.int .i64 (n : Int)))).run Try.prog w = .ok (.map (some w.heap.size)) (w.alloc (.map #[] 0)) := by
  simp [Instr.makeMap, run_underlying Try.underlying49, asInt]
  rfl
theorem below_map {B : Nat} {a w w' : World} {M : Nat} (h : Below B a w) (hg : w.grownBy w' (some M)) (hM : B ≤ M) (hs : B ≤ w.heap.size) : Below B a w' :=
  ⟨hg.os.trans h.os, hg.tape.trans h.tape, hg.output.trans h.output, Nat.le_trans h.size hg.size, fun g hgB => (hg.block g (Nat.lt_of_lt_of_le hgB hs) (fun e => by injection e with e; omega)).trans (h.block g hgB)⟩
/-- The first k pairs are in the map, and nothing else. -/
def StockAt (ps : List PV) (f : Int → Option BoxN) (k : Nat) : Prop :=
  (∀ (j : Nat) (p : PV), j < k → ps[j]? = some p → ∃ p0 p1 p2 q0 q1 q2, f p.id = some (p0, p1, p2, q0, q1, q2) ∧ Pad p.x1 p0 p1 p2 ∧ Pad p.x2 q0 q1 q2) ∧ ∀ id : Int, (f id).isSome = true → ∃ (j : Nat) (p : PV), ps[j]? = some p ∧ p.id = id
theorem StockAt.start (ps : List PV) : StockAt ps (fun _ => none) 0 := ⟨fun j p hj => absurd hj (Nat.not_lt_zero _), fun id h => by cases h⟩
theorem StockAt.next {ps : List PV} {f : Int → Option BoxN} {k : Nat} {p : PV} {p0 p1 p2 q0 q1 q2 : Int} (h : StockAt ps f k) (hr : rises (ps.map PV.val) = true) (hk : ps[k]? = some p) (hp : Pad p.x1 p0 p1 p2) (hq : Pad p.x2 q0 q1 q2) : StockAt ps (fun x => if x = p.id then some (p0, p1, p2, q0, q1, q2) else f x) (k + 1) := by
  refine ⟨fun j u hj hu => ?_, fun id hid => ?_⟩
  · by_cases e : j = k
    · subst e
      rw [hk] at hu; injection hu with hu; subst hu
      exact ⟨p0, p1, p2, q0, q1, q2, if_pos rfl, hp, hq⟩
    · have hlt := rises_lt hr (show j < k by omega) (val_get hu) (val_get hk)
      obtain ⟨a0, a1, a2, b0, b1, b2, h1, h2, h3⟩ := h.1 j u (by omega) hu
      simp only [PV.val] at hlt
      exact ⟨a0, a1, a2, b0, b1, b2, (if_neg (by omega)).trans h1, h2, h3⟩
  · by_cases e : id = p.id
    · exact ⟨k, p, hk, e.symm⟩
    · simp only [if_neg e] at hid
      exact h.2 id hid

set_option maxRecDepth 100000 in
set_option maxHeartbeats 6400000 in
theorem stockOf_any (d : Int) (n c : Nat) (A : Option Addr) (ps : List PV) (w : World) (hp : Pairs w A n ps) (hn : n ≤ maxLen) (hz : mf (ps.map PV.val) d = 0) :
    Calls Try.prog 19 #[.slice A n c] w fun e w' => ∃ M f, e = .returned (.map (some M)) ∧ BMap w' M n f ∧ StockAt ps f n ∧ Below w.heap.size w w' := by
  have HP := Lib.hid hp
  have HZ := Lib.hid hz
  have hn60 : n ≤ 60 := by have h1 := (mf_zero hz).2.1; rw [List.length_map, hp.1] at h1; exact h1
  have HRI := Lib.hid (mf_zero hz).2.2.2
  clear hp hz
  have hmk := run_makeMap_some n
  have HM := Lib.hid (BMap.made w)
  have B := Lib.hid (below_alloc w (.map #[] 0))
  have ST := Lib.hid (StockAt.start ps)
  go_enter Try.func19, Try.ntmps19
  go_wp2
  clear hmk
  go_loopw [11] (fun i wr => ∃ (k : Nat) (f : Int → Option BoxN), k ≤ n ∧ i = .int .i64 (k : Int) ∧ Hid (BMap wr w.heap.size k f) ∧ Hid (StockAt ps f k) ∧ Hid (Below w.heap.size w wr)) (fun i _ => n - (intOf i).toNat)
  case atStart => exact ⟨0, _, Nat.zero_le _, rfl, HM, ST, B⟩
  case round =>
    obtain ⟨k, f, hk, rfl, hM, hS, hB⟩ := hrel
    clear HM ST B
    by_cases hlt : k < n
    · obtain ⟨b, o, id', A1, n1, c1, A2, n2, c2, x1, x2, rfl, hb, d0, d1, d2, hx, i1, i2, m1, m2⟩ := HP.out.cellAt hlt
      have e0 : wr.cell? ⟨b, o + k * 3, none⟩ = some (.int .i64 id') := (hB.out.cell (p := ⟨b, o + k * 3, none⟩) hb).trans d0
      have e1 : wr.cell? ⟨b, o + k * 3 + 1, none⟩ = some (.slice A1 n1 c1) := (hB.out.cell (p := ⟨b, o + k * 3 + 1, none⟩) hb).trans d1
      have e2 : wr.cell? ⟨b, o + k * 3 + 2, none⟩ = some (.slice A2 n2 c2) := (hB.out.cell (p := ⟨b, o + k * 3 + 2, none⟩) hb).trans d2
      have hm := mf_each HZ.out _ (List.mem_of_getElem? (val_get hx.out))
      obtain ⟨p0, p1, p2, q0, q1, q2, hpd', hqd'⟩ := rfp_pads hm.2
      simp only [PV.val] at hpd' hqd' hm
      have hpd := Lib.hid hpd'
      have hqd := Lib.hid hqd'
      have HWF : Hid ((Lit.int .i64 id').wf = true) := WalkArith.wf_i64 (by omega)
      have hS2 := Lib.hid (hS.out.next HRI.out hx.out hpd' hqd')
      have HM0 := Lib.hid (hM.out.kept (below_alloc wr (.cells #[.int .i64 id', .slice A1 n1 c1, .slice A2 n2 c2] 28)))
      have HB0 := Lib.hid (hB.out.alloc hB.out.size (.cells #[.int .i64 id', .slice A1 n1 c1, .slice A2 n2 c2] 28))
      have LX := Lib.hid (Lies.new wr 28 #[.int .i64 id', .slice A1 n1 c1, .slice A2 n2 c2])
      have hlt' : (k : Int) < (n : Int) := by omega
      clear d0 d1 d2 hx hm hpd' hqd' hS
      go_upto_region 5 with fail
      refine wp_region_last 6 (fun w' => w'.cell? ⟨wr.heap.size, 0, none⟩ = some (.int .i64 id') ∧ w'.cell? ⟨wr.heap.size, 1, none⟩ = some (.slice A1 n1 c1) ∧ w'.cell? ⟨wr.heap.size, 2, none⟩ = some (.slice A2 n2 c2)) (by kernel_rfl) (⟨LX.out.drew.cell 0, LX.out.drew.cell 1, LX.out.drew.cell 2⟩) (fun hHeld => ?_)
      apply wpAnyL_take (i := 0)
      · simp only [List.getElem?_toArray, List.getElem?_cons_succ, List.getElem?_cons_zero]; exact rfl
      refine ⟨⟨by kernel_rfl, by kernel_rfl, by kernel_rfl, by kernel_rfl, by kernel_rfl⟩, fun _ _ _ h => h, ?_, hHeld, ?_⟩
      · intro w hSw; (try dsimp only at hSw); go_simp; all_goals (with_reducible rfl)
      (try simp only [Act.put, List.setIfInBounds_toArray, List.set_cons_zero, List.set_cons_succ])
      apply wpAnyL_take (i := 1)
      · simp only [List.getElem?_toArray, List.getElem?_cons_succ, List.getElem?_cons_zero]; exact rfl
      refine ⟨⟨by kernel_rfl, by kernel_rfl, by kernel_rfl, by kernel_rfl, by kernel_rfl⟩, fun _ _ _ h => h, ?_, hHeld, ?_⟩
      · intro w hSw; (try dsimp only at hSw); go_simp; all_goals (with_reducible rfl)
      (try simp only [Act.put, List.setIfInBounds_toArray, List.set_cons_zero, List.set_cons_succ])
      apply wpAnyL_take (i := 2)
      · simp only [List.getElem?_toArray, List.getElem?_cons_succ, List.getElem?_cons_zero]; exact rfl
      refine ⟨⟨by kernel_rfl, by kernel_rfl, by kernel_rfl, by kernel_rfl, by kernel_rfl⟩, fun _ _ _ h => h, ?_, hHeld, ?_⟩
      · intro w hSw; (try dsimp only at hSw); go_simp; all_goals (with_reducible rfl)
      (try simp only [Act.put, List.setIfInBounds_toArray, List.set_cons_zero, List.set_cons_succ])
      apply wpAnyL_take (i := 3)
      · simp only [List.getElem?_toArray, List.getElem?_cons_succ, List.getElem?_cons_zero]; exact rfl
      refine ⟨⟨by kernel_rfl, by kernel_rfl, by kernel_rfl, by kernel_rfl, by kernel_rfl⟩, fun _ _ _ h => h, ?_, hHeld, ?_⟩
      · intro w hSw; (try dsimp only at hSw); go_simp; all_goals (with_reducible rfl)
      (try simp only [Act.put, List.setIfInBounds_toArray, List.set_cons_zero, List.set_cons_succ])
      apply wpAnyL_take (i := 4)
      · simp only [List.getElem?_toArray, List.getElem?_cons_succ, List.getElem?_cons_zero]; exact rfl
      refine ⟨⟨by kernel_rfl, by kernel_rfl, by kernel_rfl, by kernel_rfl, by kernel_rfl⟩, fun _ _ _ h => h, ?_, hHeld, ?_⟩
      · intro w hSw; (try dsimp only at hSw); go_simp; all_goals (with_reducible rfl)
      (try simp only [Act.put, List.setIfInBounds_toArray, List.set_cons_zero, List.set_cons_succ])
      apply wpAnyL_one (i := 5)
      · simp only [List.getElem?_toArray, List.getElem?_cons_succ, List.getElem?_cons_zero]; exact rfl
      refine ⟨by kernel_rfl, fun K hK => ?_⟩
      go_simp
      go_at_call 34
      refine (boxFrom_any 0 _ _ 0 _ _ _ _ x1 x2 p0 p1 p2 q0 q1 q2 _ hpd.out hqd.out (i1.out.kept HB0.out.drew) (i2.out.kept HB0.out.drew)).mono ?_
      rintro e W1 ⟨rfl, b1d⟩
      have b1 := below_drawn b1d
      have HM1 := Lib.hid (HM0.out.kept b1)
      have HB1 := Lib.hid (HB0.out.trans (b1.mono HB0.out.size))
      have HX1 := Lib.hid (LX.out.kept b1 LX.out.inside)
      have k_1 : W1.cell? ⟨wr.heap.size, 0, none⟩ = some (.int .i64 id') ∧ W1.cell? ⟨wr.heap.size, 1, none⟩ = some (.slice A1 n1 c1) ∧ W1.cell? ⟨wr.heap.size, 2, none⟩ = some (.slice A2 n2 c2) := ⟨HX1.out.cell 0, HX1.out.cell 1, HX1.out.cell 2⟩
      clear b1 b1d
      have hS_5 := k_1
      refine hK.out _ _ (fun _ => hS_5) ?_
      clear hK K
      (try simp only [Act.put, List.setIfInBounds_toArray, List.set_cons_zero, List.set_cons_succ])
      apply wpAnyL_one (i := 6)
      · simp only [List.getElem?_toArray, List.getElem?_cons_succ, List.getElem?_cons_zero]; exact rfl
      refine ⟨by kernel_rfl, fun K hK => ?_⟩
      obtain ⟨w2, hrun, hM2, hg2⟩ := HM1.out.store (by unfold maxLen; omega) HWF.out (p0, p1, p2, q0, q1, q2)
      have HM2 := Lib.hid hM2
      have HB2 := Lib.hid (below_map HB1.out hg2 (by omega) HB1.out.size)
      clear hM2 hg2
      simp only [boxVal] at hrun
      go_simp
      refine hK.out _ _ (fun h => absurd rfl h) ?_
      clear hK K
      refine wpAnyL_done (by kernel_rfl) ?_ _
      clear HM0 HB0 LX HM1 HB1 HX1 k_1 hS_5 hHeld hrun hM hB e0 e1 e2
      go_wp2
      go_roundw
      case rel => exact ⟨k + 1, _, by omega, by go_num, HM2, hS2, HB2⟩
      case measure => simp [intOf]; omega
    · have hkn : k = n := by omega
      subst hkn
      go_wp2
      go_ret
      exact ⟨w.heap.size, f, by simp, hM.out, hS.out, hB.out⟩

set_option maxRecDepth 100000 in
set_option maxHeartbeats 3200000 in
theorem stockPair_any (d id p0 p1 p2 q0 q1 q2 : Int) (M k n : Nat) (x1 x2 : List Int) (f : Int → Option BoxN) (w : World) (hM : BMap w M k f) (hid : (Lit.int .i64 id).wf = true) (hf : f id = some (p0, p1, p2, q0, q1, q2)) (hp : Pad x1 p0 p1 p2) (hq : Pad x2 q0 q1 q2) (h1 : x1.length = n) (h2 : x2.length = n) (hd : d = n) :
    Calls Try.prog 20 #[.map (some M), .int .i64 id, .int .i64 d] w fun e w' => ∃ g g', e = .returned (.agg #[.int .i64 id, .slice (some ⟨g, 0, none⟩) n n, .slice (some ⟨g', 0, none⟩) n n]) ∧ Own w' g n x1 ∧ Own w' g' n x2 ∧ w.heap.size ≤ g ∧ g < g' ∧ Below w.heap.size w w' := by
  have HP := Lib.hid hp
  have HQ := Lib.hid hq
  have H1 := Lib.hid h1
  have H2 := Lib.hid h2
  have B := Lib.hid (below_alloc w (.cells #[.int .i64 0, .slice none 0 0, .slice none 0 0] 28))
  have L_r := Lib.hid (Lies.new w 28 #[.int .i64 0, .slice none 0 0, .slice none 0 0])
  have hlook := (hM.kept (below_alloc w (.cells #[.int .i64 0, .slice none 0 0, .slice none 0 0] 28))).look0 hid
  rw [hf] at hlook
  simp only [boxVal, Option.getD_some] at hlook
  have HD := Lib.hid hd
  clear hM hid hf hp hq h1 h2 hd
  go_enter Try.func20, Try.ntmps20
  go_wp2_with fail
  refine (rect_any p0 p1 p2 q0 q1 q2 d n x1 x2 _ HP.out HQ.out H1.out H2.out HD.out).mono ?_
  rintro e W1 ⟨g, g', rfl, o1, o2, hg, hgg, b1⟩
  have O1 := Lib.hid o1
  have O2 := Lib.hid o2
  have sW0 := L_r.out.inside
  replace L_r := Lib.hid (L_r.out.kept b1 L_r.out.inside)
  replace B := Lib.hid (B.out.trans (b1.mono B.out.size))
  simp only [World.size_alloc] at hg
  clear o1 o2 b1 hlook
  have z0 : W1.cell? ⟨w.heap.size, 0, none⟩ = some (.int .i64 0) := L_r.out.cell 0
  have z1 : W1.cell? ⟨w.heap.size, 1, none⟩ = some (.slice none 0 0) := L_r.out.cell 1
  have z2 : W1.cell? ⟨w.heap.size, 2, none⟩ = some (.slice none 0 0) := L_r.out.cell 2
  have y0 : W1.frozen? ⟨w.heap.size, 0, none⟩ = false := L_r.out.thawed 0
  have y1 : W1.frozen? ⟨w.heap.size, 1, none⟩ = false := L_r.out.thawed 1
  have y2 : W1.frozen? ⟨w.heap.size, 2, none⟩ = false := L_r.out.thawed 2
  go_wp2
  refine bodyPost_ret (v := .agg #[.int .i64 id, .slice (some ⟨g, 0, none⟩) n n, .slice (some ⟨g', 0, none⟩) n n]) (by simp [results, Try.results20, go_sem, z0, z1, z2]) rfl ⟨g, g', rfl, ?_, ?_, by omega, hgg, ?_⟩
  · exact ((O1.out.far' (by show g ≠ w.heap.size; omega) _).far' (by show g ≠ w.heap.size; omega) _).far' (by show g ≠ w.heap.size; omega) _
  · exact ((O2.out.far' (by show g' ≠ w.heap.size; omega) _).far' (by show g' ≠ w.heap.size; omega) _).far' (by show g' ≠ w.heap.size; omega) _
  · exact ((B.out.setCell (Nat.le_refl _) _).setCell (Nat.le_refl _) _).setCell (Nat.le_refl _) _

/-- The program's answer: a code alone, or a pair whose rows are the call's own. -/
def FindOwn (R : Int × PVal) (w : World) (e : Ending) (w' : World) : Prop :=
  Below w.heap.size w w' ∧ ((R.1 ≠ 0 ∧ e = .returned (.agg #[.int .i64 R.1, .int .i64 0, .slice none 0 0, .slice none 0 0])) ∨ (R.1 = 0 ∧ ∃ g g' n, n ≤ 3 ∧ e = .returned (.agg #[.int .i64 0, .int .i64 R.2.1, .slice (some ⟨g, 0, none⟩) n n, .slice (some ⟨g', 0, none⟩) n n]) ∧ Own w' g n R.2.2.1 ∧ Own w' g' n R.2.2.2 ∧ w.heap.size ≤ g ∧ g < g'))
theorem FindOwn.no {c : Int} {R : Int × PVal} {w w' : World} (hR : R = (c, 0, [], []) ∧ c ≠ 0) (hb : Below w.heap.size w w') : FindOwn R w (.returned (.agg #[.int .i64 c, .int .i64 0, .slice none 0 0, .slice none 0 0])) w' := by
  obtain ⟨rfl, h⟩ := hR
  exact ⟨hb, Or.inl ⟨h, rfl⟩⟩

set_option maxRecDepth 100000 in
set_option maxHeartbeats 6400000 in
theorem implFindPair_any (d id : Int) (n c : Nat) (A : Option Addr) (ps : List PV) (w : World) (hp : Pairs w A n ps) (hn : n ≤ maxLen) (hid : (Lit.int .i64 id).wf = true) :
    Calls Try.prog 7 #[.slice A n c, .int .i64 d, .int .i64 id] w (FindOwn (findR (ps.map PV.val) d id) w) := by
  have HP := Lib.hid hp
  have HID := Lib.hid hid
  clear hp hid
  have B := Lib.hid (below_alloc w (.cells #[.int .i64 0, .int .i64 0, .slice none 0 0, .slice none 0 0] 30))
  have L_r := Lib.hid (Lies.new w 30 #[.int .i64 0, .int .i64 0, .slice none 0 0, .slice none 0 0])
  go_enter Try.func7, Try.ntmps7
  go_wp2_with fail
  refine (implModelFault_any d n c A ps _ (HP.out.kept B.out) hn).mono ?_
  rintro e W1 ⟨rfl, b1⟩
  replace L_r := Lib.hid (L_r.out.kept b1 L_r.out.inside)
  replace B := Lib.hid (B.out.trans (b1.mono B.out.size))
  clear b1
  by_cases hz : mf (ps.map PV.val) d = 0
  rotate_left
  · have hz1 : (mf (ps.map PV.val) d != 0) = true := by simpa using hz
    have HR := Lib.hid (And.intro (findR_bad (id := id) hz) hz)
    clear hz
    have z0 : W1.cell? ⟨w.heap.size, 0, none⟩ = some (.int .i64 0) := L_r.out.cell 0
    have y0 : W1.frozen? ⟨w.heap.size, 0, none⟩ = false := L_r.out.thawed 0
    have z1 : W1.cell? ⟨w.heap.size, 1, none⟩ = some (.int .i64 0) := L_r.out.cell 1
    have y1 : W1.frozen? ⟨w.heap.size, 1, none⟩ = false := L_r.out.thawed 1
    have z2 : W1.cell? ⟨w.heap.size, 2, none⟩ = some (.slice none 0 0) := L_r.out.cell 2
    have y2 : W1.frozen? ⟨w.heap.size, 2, none⟩ = false := L_r.out.thawed 2
    have z3 : W1.cell? ⟨w.heap.size, 3, none⟩ = some (.slice none 0 0) := L_r.out.cell 3
    have y3 : W1.frozen? ⟨w.heap.size, 3, none⟩ = false := L_r.out.thawed 3
    go_wp2
    refine bodyPost_ret (v := .agg #[.int .i64 (mf (ps.map PV.val) d), .int .i64 0, .slice none 0 0, .slice none 0 0]) (by simp [results, Try.results7, go_sem, z0, z1, z2, z3]) rfl ?_
    with_reducible refine FindOwn.no HR.out ?_
    with_reducible (repeat (first | exact B.out | refine Below.setCell ?_ ?_ _))
    all_goals exact Nat.le_refl _
  have hz1 : (mf (ps.map PV.val) d != 0) = false := by simp [hz]
  have HZ := Lib.hid hz
  clear hz
  go_wp2_with fail
  refine (stockOf_any d n c A ps _ (HP.out.kept B.out) hn HZ.out).mono ?_
  rintro e W2 ⟨M, f, rfl, hM, hS, b2⟩
  replace L_r := Lib.hid (L_r.out.kept b2 L_r.out.inside)
  replace B := Lib.hid (B.out.trans (b2.mono B.out.size))
  clear b2
  have HM := Lib.hid hM
  have HS := Lib.hid hS
  have hlook := hM.look HID.out
  clear hM hS
  cases hf : f id with
  | none =>
    rw [hf] at hlook
    simp only [boxVal, Option.getD_none, Option.isSome_none] at hlook
    have HR : Hid (findR (ps.map PV.val) d id = (4, 0, [], []) ∧ (4 : Int) ≠ 0) := ⟨findR_none HZ.out (fun v hv e => by
      obtain ⟨q, hq, rfl⟩ := List.mem_map.1 hv
      obtain ⟨j, hj⟩ := List.getElem?_of_mem hq
      obtain ⟨_, _, _, _, _, _, h1, _⟩ := HS.out.1 j q (by have h1 := (List.getElem?_eq_some_iff.1 hj).1; rw [HP.out.1] at h1; exact h1) hj
      have e2 : q.id = id := e
      rw [e2, hf] at h1; cases h1), by decide⟩
    clear hf
    replace L_r := Lib.hid (L_r.out.alloc (.cells #[.int .i64 0, .int .i64 0, .int .i64 0, .int .i64 0, .int .i64 0, .int .i64 0] 54))
    replace B := Lib.hid (B.out.alloc B.out.size (.cells #[.int .i64 0, .int .i64 0, .int .i64 0, .int .i64 0, .int .i64 0, .int .i64 0] 54))
    have z0 : (W2.alloc (.cells #[.int .i64 0, .int .i64 0, .int .i64 0, .int .i64 0, .int .i64 0, .int .i64 0] 54)).cell? ⟨w.heap.size, 0, none⟩ = some (.int .i64 0) := L_r.out.cell 0
    have y0 : (W2.alloc (.cells #[.int .i64 0, .int .i64 0, .int .i64 0, .int .i64 0, .int .i64 0, .int .i64 0] 54)).frozen? ⟨w.heap.size, 0, none⟩ = false := L_r.out.thawed 0
    have z1 : (W2.alloc (.cells #[.int .i64 0, .int .i64 0, .int .i64 0, .int .i64 0, .int .i64 0, .int .i64 0] 54)).cell? ⟨w.heap.size, 1, none⟩ = some (.int .i64 0) := L_r.out.cell 1
    have y1 : (W2.alloc (.cells #[.int .i64 0, .int .i64 0, .int .i64 0, .int .i64 0, .int .i64 0, .int .i64 0] 54)).frozen? ⟨w.heap.size, 1, none⟩ = false := L_r.out.thawed 1
    have z2 : (W2.alloc (.cells #[.int .i64 0, .int .i64 0, .int .i64 0, .int .i64 0, .int .i64 0, .int .i64 0] 54)).cell? ⟨w.heap.size, 2, none⟩ = some (.slice none 0 0) := L_r.out.cell 2
    have y2 : (W2.alloc (.cells #[.int .i64 0, .int .i64 0, .int .i64 0, .int .i64 0, .int .i64 0, .int .i64 0] 54)).frozen? ⟨w.heap.size, 2, none⟩ = false := L_r.out.thawed 2
    have z3 : (W2.alloc (.cells #[.int .i64 0, .int .i64 0, .int .i64 0, .int .i64 0, .int .i64 0, .int .i64 0] 54)).cell? ⟨w.heap.size, 3, none⟩ = some (.slice none 0 0) := L_r.out.cell 3
    have y3 : (W2.alloc (.cells #[.int .i64 0, .int .i64 0, .int .i64 0, .int .i64 0, .int .i64 0, .int .i64 0] 54)).frozen? ⟨w.heap.size, 3, none⟩ = false := L_r.out.thawed 3
    go_wp2
    refine bodyPost_ret (v := .agg #[.int .i64 (4), .int .i64 0, .slice none 0 0, .slice none 0 0]) (by simp [results, Try.results7, go_sem, z0, z1, z2, z3]) rfl ?_
    with_reducible refine FindOwn.no HR.out ?_
    with_reducible (repeat (first | exact B.out | refine Below.setCell ?_ ?_ _))
    all_goals exact Nat.le_refl _
  | some bx =>
    obtain ⟨k, p, hk, hpid⟩ := HS.out.2 id (by rw [hf]; rfl)
    subst hpid
    obtain ⟨p0, p1, p2, q0, q1, q2, hfe, hpd, hqd⟩ := HS.out.1 k p (by have h1 := (List.getElem?_eq_some_iff.1 hk).1; rw [HP.out.1] at h1; exact h1) hk
    have hbx : bx = (p0, p1, p2, q0, q1, q2) := by rw [hf] at hfe; injection hfe
    subst hbx
    rw [hf] at hlook
    simp only [boxVal, Option.getD_some, Option.isSome_some] at hlook
    have HR : Hid (findR (ps.map PV.val) d p.id = (0, p.val)) := findR_yes HZ.out (val_get hk) rfl
    obtain ⟨hd, l1, l2⟩ := rfp_len (mf_each HZ.out _ (List.mem_of_getElem? (val_get hk))).2
    simp only [PV.val] at l1 l2
    have HF := Lib.hid hf
    have HPD := Lib.hid hpd
    have HQD := Lib.hid hqd
    clear hf hfe hpd hqd hk
    have HM2 := Lib.hid (HM.out.kept (below_alloc W2 (.cells #[.int .i64 p0, .int .i64 p1, .int .i64 p2, .int .i64 q0, .int .i64 q1, .int .i64 q2] 54)))
    replace L_r := Lib.hid (L_r.out.alloc (.cells #[.int .i64 p0, .int .i64 p1, .int .i64 p2, .int .i64 q0, .int .i64 q1, .int .i64 q2] 54))
    replace B := Lib.hid (B.out.alloc B.out.size (.cells #[.int .i64 p0, .int .i64 p1, .int .i64 p2, .int .i64 q0, .int .i64 q1, .int .i64 q2] 54))
    have sB := B.out.size
    go_wp2_with fail
    refine (stockPair_any d p.id p0 p1 p2 q0 q1 q2 M n d.toNat p.x1 p.x2 f _ HM2.out HID.out HF.out HPD.out HQD.out (by omega) (by omega) (by omega)).mono ?_
    rintro e W3 ⟨g, g', rfl, o1, o2, hg, hgg, b3⟩
    have O1 := Lib.hid o1
    have O2 := Lib.hid o2
    have hri := L_r.out.inside
    clear o1 o2 hlook
    replace L_r := Lib.hid (L_r.out.kept b3 L_r.out.inside)
    replace B := Lib.hid (B.out.trans (b3.mono B.out.size))
    clear b3
    have z0 : W3.cell? ⟨w.heap.size, 0, none⟩ = some (.int .i64 0) := L_r.out.cell 0
    have y0 : W3.frozen? ⟨w.heap.size, 0, none⟩ = false := L_r.out.thawed 0
    have z1 : W3.cell? ⟨w.heap.size, 1, none⟩ = some (.int .i64 0) := L_r.out.cell 1
    have y1 : W3.frozen? ⟨w.heap.size, 1, none⟩ = false := L_r.out.thawed 1
    have z2 : W3.cell? ⟨w.heap.size, 2, none⟩ = some (.slice none 0 0) := L_r.out.cell 2
    have y2 : W3.frozen? ⟨w.heap.size, 2, none⟩ = false := L_r.out.thawed 2
    have z3 : W3.cell? ⟨w.heap.size, 3, none⟩ = some (.slice none 0 0) := L_r.out.cell 3
    have y3 : W3.frozen? ⟨w.heap.size, 3, none⟩ = false := L_r.out.thawed 3
    go_wp2
    refine bodyPost_ret (v := .agg #[.int .i64 0, .int .i64 p.id, .slice (some ⟨g, 0, none⟩) d.toNat d.toNat, .slice (some ⟨g', 0, none⟩) d.toNat d.toNat]) (by simp [results, Try.results7, go_sem, z0, z1, z2, z3]) rfl ?_
    rw [HR.out]
    refine ⟨?_, Or.inr ⟨rfl, g, g', d.toNat, by omega, rfl, ?_, ?_, by omega, hgg⟩⟩
    · with_reducible (repeat (first | exact B.out | refine Below.setCell ?_ ?_ _))
      all_goals exact Nat.le_refl _
    · show Own _ g d.toNat p.x1
      with_reducible (repeat (first | exact O1.out | refine Own.far' ?_ ?_ _))
      all_goals (show g ≠ w.heap.size; omega)
    · show Own _ g' d.toNat p.x2
      with_reducible (repeat (first | exact O2.out | refine Own.far' ?_ ?_ _))
      all_goals (show g' ≠ w.heap.size; omega)

end Go.Proofs.Ytpgoildfjkokiab
