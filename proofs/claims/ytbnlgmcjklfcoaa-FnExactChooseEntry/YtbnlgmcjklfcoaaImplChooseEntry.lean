/- The walk of impl.ChooseEntry. No condition but lengths. -/
import Derived.Test.YtbnlgmcjklfcoaaImplChoose
namespace Go.Proofs.Ytbnlgmcjklfcoaa
open Go.RowKit

set_option maxRecDepth 100000 in
set_option maxHeartbeats 6400000 in
theorem implChooseEntry_any (d : Int) (n c n3 c3 n4 c4 : Nat) (A A3 A4 : Option Addr) (ps : List EV) (y1 y2 : List Int) (w : World) (hp : Entries w A n ps) (hn : n ≤ maxLen) (h3 : Ints w 0 A3 n3 y1) (h4 : Ints w 0 A4 n4 y2) (m3 : n3 ≤ maxLen) (m4 : n4 ≤ maxLen) :
    Calls Try.prog 23 #[.slice A n c, .int .i64 d, .agg #[.slice A3 n3 c3, .slice A4 n4 c4]] w fun e w' => e = .returned (.agg #[.int .i64 (chooseF (ps.map EV.val) y1 y2 d).1, .int .i64 (chooseF (ps.map EV.val) y1 y2 d).2]) ∧ Below w.heap.size w w' := by
  have HP := Lib.hid hp
  have HL : Hid ((ps.map EV.val).length = n) := by show List.length _ = n; rw [List.length_map]; exact hp.1
  have I3 := Lib.hid h3
  have I4 := Lib.hid h4
  clear hp h3 h4
  have B := Lib.hid (below_alloc w (.cells #[.slice A3 n3 c3, .slice A4 n4 c4] 36))
  have L_q := Lib.hid ((Lies.new w 36 #[.slice A3 n3 c3, .slice A4 n4 c4]).alloc (.cells #[.int .i64 0, .int .i64 0] 34))
  have L_r := Lib.hid (Lies.new (w.alloc (.cells #[.slice A3 n3 c3, .slice A4 n4 c4] 36)) 34 #[.int .i64 0, .int .i64 0])
  replace B := Lib.hid (B.out.alloc B.out.size (.cells #[.int .i64 0, .int .i64 0] 34))
  simp only [World.size_alloc] at L_r
  go_enter Try.func23, Try.ntmps23
  go_wp2_with fail
  refine (openEntries_any _ _ _ _ ps _ (HP.out.kept B.out) hn).mono ?_
  rintro e W1 ⟨b1, h⟩
  replace L_r := Lib.hid (L_r.out.kept b1 L_r.out.inside)
  replace L_q := Lib.hid (L_q.out.kept b1 L_q.out.inside)
  replace B := Lib.hid (B.out.trans (b1.mono B.out.size))
  clear b1
  rcases h with ⟨hz, rfl⟩ | ⟨hz, A', c', ss, rfl, hS, hO, hF⟩
  · have HC := Lib.hid (chooseF_ents (y1 := y1) (y2 := y2) hz)
    have hz1 : (entsF (ps.map EV.val) d != 0) = true := by simpa using hz
    clear hz
    replace L_r := Lib.hid (L_r.out.alloc (.cells #[.int .i64 0, .slice none 0 0] 113))
    replace B := Lib.hid (B.out.alloc B.out.size (.cells #[.int .i64 0, .slice none 0 0] 113))
    have z0 : (W1.alloc (.cells #[.int .i64 0, .slice none 0 0] 113)).cell? ⟨w.heap.size + 1, 0, none⟩ = some (.int .i64 0) := L_r.out.cell 0
    have z1 : (W1.alloc (.cells #[.int .i64 0, .slice none 0 0] 113)).cell? ⟨w.heap.size + 1, 1, none⟩ = some (.int .i64 0) := L_r.out.cell 1
    have f0 : (W1.alloc (.cells #[.int .i64 0, .slice none 0 0] 113)).frozen? ⟨w.heap.size + 1, 0, none⟩ = false := L_r.out.thawed 0
    have f1 : (W1.alloc (.cells #[.int .i64 0, .slice none 0 0] 113)).frozen? ⟨w.heap.size + 1, 1, none⟩ = false := L_r.out.thawed 1
    go_wp2
    refine bodyPost_ret (v := .agg #[.int .i64 (entsF (ps.map EV.val) d), .int .i64 0]) (by simp [results, Try.results23, go_sem, z0, z1]) rfl ⟨agg_pair HC.out, ?_⟩
    exact (B.out.setCell (Nat.le_succ _) _).setCell (Nat.le_succ _) _
  obtain ⟨hd, hn8, hent, _⟩ := entsF_zero hz
  rw [HL.out] at hn8
  have HZ := Lib.hid hz
  have HE := Lib.hid hent
  have HO := Lib.hid hO
  have L_b := Lib.hid (Lies.new W1 113 #[.int .i64 d, .slice A' n c'])
  have HS := Lib.hid (hS.kept (below_alloc W1 (.cells #[.int .i64 d, .slice A' n c'] 113)))
  have hW1 : w.heap.size + 1 < W1.heap.size := L_r.out.inside
  replace L_r := Lib.hid (L_r.out.alloc (.cells #[.int .i64 d, .slice A' n c'] 113))
  replace L_q := Lib.hid (L_q.out.alloc (.cells #[.int .i64 d, .slice A' n c'] 113))
  replace B := Lib.hid (B.out.alloc B.out.size (.cells #[.int .i64 d, .slice A' n c'] 113))
  clear hz hent hS hO hF
  have q0 : (W1.alloc (.cells #[.int .i64 d, .slice A' n c'] 113)).cell? ⟨w.heap.size, 0, none⟩ = some (.slice A3 n3 c3) := L_q.out.cell 0
  have q1 : (W1.alloc (.cells #[.int .i64 d, .slice A' n c'] 113)).cell? ⟨w.heap.size, 1, none⟩ = some (.slice A4 n4 c4) := L_q.out.cell 1
  by_cases hr : rf y1 y2 d = 0
  rotate_left
  · have HC := Lib.hid (chooseF_rf HZ.out hr)
    have hr1 : (rf y1 y2 d != 0) = true := by simpa using hr
    clear hr
    go_wp2_with fail
    refine (implRectFault_any _ _ _ _ _ _ _ _ _ y1 y2 _ (I3.out.kept B.out) (I4.out.kept B.out) m3 m4).mono ?_
    rintro e W2 ⟨rfl, b2⟩
    replace L_r := Lib.hid (L_r.out.kept b2 L_r.out.inside)
    replace B := Lib.hid (B.out.trans (b2.mono B.out.size))
    clear b2 q0 q1
    have z0 : W2.cell? ⟨w.heap.size + 1, 0, none⟩ = some (.int .i64 0) := L_r.out.cell 0
    have z1 : W2.cell? ⟨w.heap.size + 1, 1, none⟩ = some (.int .i64 0) := L_r.out.cell 1
    have f0 : W2.frozen? ⟨w.heap.size + 1, 0, none⟩ = false := L_r.out.thawed 0
    have f1 : W2.frozen? ⟨w.heap.size + 1, 1, none⟩ = false := L_r.out.thawed 1
    go_wp2
    refine bodyPost_ret (v := .agg #[.int .i64 (rf y1 y2 d), .int .i64 0]) (by simp [results, Try.results23, go_sem, z0, z1]) rfl ⟨agg_pair HC.out, ?_⟩
    exact (B.out.setCell (Nat.le_succ _) _).setCell (Nat.le_succ _) _
  have hr1 : (rf y1 y2 d != 0) = false := by simp [hr]
  have HR := Lib.hid hr
  have HY := Lib.hid (right_toNat hd.1 hr)
  obtain ⟨r0, r1, r2, s0, s1, s2, hy1, hy2⟩ := pads_of hr
  have Y1 := Lib.hid hy1
  have Y2 := Lib.hid hy2
  clear hr hy1 hy2
  go_wp2_with fail
  refine (implRectFault_any _ _ _ _ _ _ _ _ _ y1 y2 _ (I3.out.kept B.out) (I4.out.kept B.out) m3 m4).mono ?_
  rintro e W2 ⟨rfl, b2⟩
  replace L_r := Lib.hid (L_r.out.kept b2 L_r.out.inside)
  replace L_q := Lib.hid (L_q.out.kept b2 L_q.out.inside)
  replace L_b := Lib.hid (L_b.out.kept b2 L_b.out.inside)
  replace HS := Lib.hid (HS.out.kept b2)
  replace B := Lib.hid (B.out.trans (b2.mono B.out.size))
  clear b2 q0 q1
  have c0 : W2.cell? ⟨W1.heap.size, 0, none⟩ = some (.int .i64 d) := L_b.out.cell 0
  have c1 : W2.cell? ⟨W1.heap.size, 1, none⟩ = some (.slice A' n c') := L_b.out.cell 1
  by_cases h0 : n = 0
  · have HC := Lib.hid (chooseF_none HZ.out HR.out (HL.out.trans h0))
    have h01 : ((n : Int) == 0) = true := by simp [h0]
    clear h0
    go_wp2_with fail
    refine (bodyCount_any _ _ _ _ _).mono ?_
    rintro e W3 ⟨rfl, b3⟩
    replace L_r := Lib.hid (L_r.out.kept b3 L_r.out.inside)
    replace B := Lib.hid (B.out.trans (b3.mono B.out.size))
    clear b3 c0 c1
    have z0 : W3.cell? ⟨w.heap.size + 1, 0, none⟩ = some (.int .i64 0) := L_r.out.cell 0
    have z1 : W3.cell? ⟨w.heap.size + 1, 1, none⟩ = some (.int .i64 0) := L_r.out.cell 1
    have f0 : W3.frozen? ⟨w.heap.size + 1, 0, none⟩ = false := L_r.out.thawed 0
    have f1 : W3.frozen? ⟨w.heap.size + 1, 1, none⟩ = false := L_r.out.thawed 1
    go_wp2
    refine bodyPost_ret (v := .agg #[.int .i64 4, .int .i64 0]) (by simp [results, Try.results23, go_sem, z0, z1]) rfl ⟨agg_pair HC.out, ?_⟩
    exact (B.out.setCell (Nat.le_succ _) _).setCell (Nat.le_succ _) _
  have hpos : 0 < n := by omega
  have h01 : ((n : Int) == 0) = false := by simp [h0]
  have HC := Lib.hid (chooseF_some HZ.out HR.out (show 0 < (ps.map EV.val).length by rw [HL.out]; exact hpos))
  have HRT : Hid (∀ (j : Nat) (u : EVal), (ps.map EV.val)[j]? = some u → Right u.1 u.2.1 d.toNat) := fun j u hu => right_toNat hd.1 (entF_zero (HE.out j u hu)).1
  rw [HL.out] at HC
  have HDN : Hid (d = (d.toNat : Nat)) := by show d = _; omega
  clear h0
  go_wp2_with fail
  refine (bodyCount_any _ _ _ _ _).mono ?_
  rintro e W3 ⟨rfl, b3⟩
  replace L_r := Lib.hid (L_r.out.kept b3 L_r.out.inside)
  replace L_q := Lib.hid (L_q.out.kept b3 L_q.out.inside)
  replace L_b := Lib.hid (L_b.out.kept b3 L_b.out.inside)
  replace HS := Lib.hid (HS.out.kept b3)
  replace B := Lib.hid (B.out.trans (b3.mono B.out.size))
  clear b3 c0 c1
  go_wp2
  have K0 : W3.cell? ⟨W1.heap.size, 0, none⟩ = some (.int .i64 d) ∧ W3.cell? ⟨W1.heap.size, 1, none⟩ = some (.slice A' n c') ∧ W3.cell? ⟨w.heap.size, 0, none⟩ = some (.slice A3 n3 c3) ∧ W3.cell? ⟨w.heap.size, 1, none⟩ = some (.slice A4 n4 c4) := ⟨L_b.out.cell 0, L_b.out.cell 1, L_q.out.cell 0, L_q.out.cell 1⟩
  go_region_held3 (fun w' => w'.cell? ⟨W1.heap.size, 0, none⟩ = some (.int .i64 d) ∧ w'.cell? ⟨W1.heap.size, 1, none⟩ = some (.slice A' n c') ∧ w'.cell? ⟨w.heap.size, 0, none⟩ = some (.slice A3 n3 c3) ∧ w'.cell? ⟨w.heap.size, 1, none⟩ = some (.slice A4 n4 c4))
    (first | (simp [go_sem, K0]; done) | with_reducible exact K1 | with_reducible exact K2 | (simp [go_sem, K1]; done) | (simp [go_sem, K2]; done))
    (first
      | (go_at_call 85; refine (boxFrom_any _ _ _ _ _ _ _ _ y1 y2 r0 r1 r2 s0 s1 s2 _ Y1.out Y2.out (I3.out.kept B.out.drew) (I4.out.kept B.out.drew)).mono ?_
         rintro e W4 ⟨rfl, b4d⟩
         have b4 := below_drawn b4d
         have K1 : W4.cell? ⟨W1.heap.size, 0, none⟩ = some (.int .i64 d) ∧ W4.cell? ⟨W1.heap.size, 1, none⟩ = some (.slice A' n c') ∧ W4.cell? ⟨w.heap.size, 0, none⟩ = some (.slice A3 n3 c3) ∧ W4.cell? ⟨w.heap.size, 1, none⟩ = some (.slice A4 n4 c4) := ⟨(L_b.out.kept b4 L_b.out.inside).cell 0, (L_b.out.kept b4 L_b.out.inside).cell 1, (L_q.out.kept b4 L_q.out.inside).cell 0, (L_q.out.kept b4 L_q.out.inside).cell 1⟩
         have HS4 := Lib.hid (HS.out.kept b4)
         have LR4 := Lib.hid (L_r.out.kept b4 L_r.out.inside)
         have LB4 := Lib.hid (L_b.out.kept b4 L_b.out.inside)
         have LQ4 := Lib.hid (L_q.out.kept b4 L_q.out.inside)
         have B4 := Lib.hid (B.out.trans (b4.mono B.out.size))
         clear b4 b4d)
      | (go_at_call 84; refine (choose_any r0 r1 r2 s0 s1 s2 d n c' d.toNat A' (ps.map EV.val) ss y1 y2 _ HS4.out HO.out hn8 hpos HRT.out Y1.out Y2.out HY.out HDN.out).mono ?_
         rintro e W5 ⟨rfl, b5⟩
         have K2 : W5.cell? ⟨W1.heap.size, 0, none⟩ = some (.int .i64 d) ∧ W5.cell? ⟨W1.heap.size, 1, none⟩ = some (.slice A' n c') ∧ W5.cell? ⟨w.heap.size, 0, none⟩ = some (.slice A3 n3 c3) ∧ W5.cell? ⟨w.heap.size, 1, none⟩ = some (.slice A4 n4 c4) := ⟨(LB4.out.kept b5 LB4.out.inside).cell 0, (LB4.out.kept b5 LB4.out.inside).cell 1, (LQ4.out.kept b5 LQ4.out.inside).cell 0, (LQ4.out.kept b5 LQ4.out.inside).cell 1⟩
         have LR5 := Lib.hid (LR4.out.kept b5 LR4.out.inside)
         have B5 := Lib.hid (B4.out.trans (b5.mono B4.out.size))
         have z0 : W5.cell? ⟨w.heap.size + 1, 0, none⟩ = some (.int .i64 0) := LR5.out.cell 0
         have z1 : W5.cell? ⟨w.heap.size + 1, 1, none⟩ = some (.int .i64 0) := LR5.out.cell 1
         have f0 : W5.frozen? ⟨w.heap.size + 1, 0, none⟩ = false := LR5.out.thawed 0
         have f1 : W5.frozen? ⟨w.heap.size + 1, 1, none⟩ = false := LR5.out.thawed 1
         clear b5))
  go_wp2
  refine bodyPost_ret (v := .agg #[.int .i64 0, .int .i64 ((bestTo (bidsE y1 y2 d.toNat (ps.map EV.val)) n : Nat) : Int)]) (by simp [results, Try.results23, go_sem, z0, z1]) rfl ⟨agg_pair HC.out, ?_⟩
  exact (B5.out.setCell (Nat.le_succ _) _).setCell (Nat.le_succ _) _

end Go.Proofs.Ytbnlgmcjklfcoaa
