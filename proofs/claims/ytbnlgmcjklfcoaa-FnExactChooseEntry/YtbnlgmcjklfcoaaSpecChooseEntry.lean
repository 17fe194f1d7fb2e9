/- What impl.ChooseEntry and spec.ChooseEntry answer (plain), and the walk of spec.ChooseEntry. -/
import Derived.Test.YtbnlgmcjklfcoaaSpecChoose
import Derived.Test.YtbnlgmcjklfcoaaReadNode
namespace Go.Proofs.Ytbnlgmcjklfcoaa
open Go.RowKit

/-- The code and the place. -/
def chooseF (vs : List EVal) (y1 y2 : List Int) (d : Int) : Int × Int :=
  if entsF vs d ≠ 0 then (entsF vs d, 0) else if rf y1 y2 d ≠ 0 then (rf y1 y2 d, 0) else if vs.length = 0 then (4, 0) else (0, ((bestTo (bidsE y1 y2 d.toNat vs) vs.length : Nat) : Int))
theorem chooseF_ents {vs : List EVal} {y1 y2 : List Int} {d : Int} (h : entsF vs d ≠ 0) : chooseF vs y1 y2 d = (entsF vs d, 0) := by unfold chooseF; rw [if_pos h]
theorem chooseF_rf {vs : List EVal} {y1 y2 : List Int} {d : Int} (h : entsF vs d = 0) (h2 : rf y1 y2 d ≠ 0) : chooseF vs y1 y2 d = (rf y1 y2 d, 0) := by unfold chooseF; rw [if_neg (by simp [h]), if_pos h2]
theorem chooseF_none {vs : List EVal} {y1 y2 : List Int} {d : Int} (h : entsF vs d = 0) (h2 : rf y1 y2 d = 0) (h3 : vs.length = 0) : chooseF vs y1 y2 d = (4, 0) := by unfold chooseF; rw [if_neg (by simp [h]), if_neg (by simp [h2]), if_pos h3]
theorem chooseF_some {vs : List EVal} {y1 y2 : List Int} {d : Int} (h : entsF vs d = 0) (h2 : rf y1 y2 d = 0) (h3 : 0 < vs.length) : chooseF vs y1 y2 d = (0, ((bestTo (bidsE y1 y2 d.toNat vs) vs.length : Nat) : Int)) := by unfold chooseF; rw [if_neg (by simp [h]), if_neg (by simp [h2]), if_neg (by omega)]
theorem agg_pair {a b : Int} {p : Int × Int} (h : p = (a, b)) : Ending.returned (.agg #[.int .i64 a, .int .i64 b]) = .returned (.agg #[.int .i64 p.1, .int .i64 p.2]) := by rw [h]
theorem right_toNat {d : Int} {xs ys : List Int} (hd : 2 ≤ d) (h : rf xs ys d = 0) : Right xs ys d.toNat := right_of_rf (by rw [show ((d.toNat : Nat) : Int) = d by omega]; exact h)

set_option maxRecDepth 100000 in
set_option maxHeartbeats 6400000 in
theorem specChooseEntry_any (d : Int) (n c n3 c3 n4 c4 : Nat) (A A3 A4 : Option Addr) (ps : List EV) (y1 y2 : List Int) (w : World) (hp : Entries w A n ps) (hn : n ≤ maxLen) (h3 : Ints w 0 A3 n3 y1) (h4 : Ints w 0 A4 n4 y2) (m3 : n3 ≤ maxLen) (m4 : n4 ≤ maxLen) :
    Calls Try.prog 21 #[.slice A n c, .int .i64 d, .agg #[.slice A3 n3 c3, .slice A4 n4 c4]] w fun e w' => e = .returned (.agg #[.int .i64 (chooseF (ps.map EV.val) y1 y2 d).1, .int .i64 (chooseF (ps.map EV.val) y1 y2 d).2]) ∧ Below w.heap.size w w' := by
  have HP := Lib.hid hp
  have HL : Hid ((ps.map EV.val).length = n) := by show List.length _ = n; rw [List.length_map]; exact hp.1
  have I3 := Lib.hid h3
  have I4 := Lib.hid h4
  clear hp h3 h4
  have B := Lib.hid (below_alloc w (.cells #[.slice A3 n3 c3, .slice A4 n4 c4] 36))
  have L_q := Lib.hid ((Lies.new w 36 #[.slice A3 n3 c3, .slice A4 n4 c4]).alloc (.cells #[.int .i64 0, .int .i64 0] 34))
  have L_r := Lib.hid (Lies.new (w.alloc (.cells #[.slice A3 n3 c3, .slice A4 n4 c4] 36)) 34 #[.int .i64 0, .int .i64 0])
  replace B := Lib.hid (B.out.alloc B.out.size (.cells #[.int .i64 0, .int .i64 0] 34))
  simp only [World.size_alloc] at L_r
  by_cases hz : entsF (ps.map EV.val) d = 0
  rotate_left
  · have HC := Lib.hid (chooseF_ents (y1 := y1) (y2 := y2) hz)
    have hz1 : (entsF (ps.map EV.val) d != 0) = true := by simpa using hz
    clear hz
    go_enter Try.func21, Try.ntmps21
    go_wp2_with fail
    refine (specEntriesFault_any _ _ _ _ ps _ (HP.out.kept B.out) hn).mono ?_
    rintro e W1 ⟨rfl, b1⟩
    replace L_r := Lib.hid (L_r.out.kept b1 L_r.out.inside)
    replace B := Lib.hid (B.out.trans (b1.mono B.out.size))
    clear b1
    have z0 : W1.cell? ⟨w.heap.size + 1, 0, none⟩ = some (.int .i64 0) := L_r.out.cell 0
    have z1 : W1.cell? ⟨w.heap.size + 1, 1, none⟩ = some (.int .i64 0) := L_r.out.cell 1
    have f0 : W1.frozen? ⟨w.heap.size + 1, 0, none⟩ = false := L_r.out.thawed 0
    have f1 : W1.frozen? ⟨w.heap.size + 1, 1, none⟩ = false := L_r.out.thawed 1
    go_wp2
    refine bodyPost_ret (v := .agg #[.int .i64 (entsF (ps.map EV.val) d), .int .i64 0]) (by simp [results, Try.results21, go_sem, z0, z1]) rfl ⟨agg_pair HC.out, ?_⟩
    exact (B.out.setCell (Nat.le_succ _) _).setCell (Nat.le_succ _) _
  have hz1 : (entsF (ps.map EV.val) d != 0) = false := by simp [hz]
  obtain ⟨hd, hn8, hent, _⟩ := entsF_zero hz
  have HZ := Lib.hid hz
  have HE := Lib.hid hent
  clear hz hent
  go_enter Try.func21, Try.ntmps21
  go_wp2_with fail
  refine (specEntriesFault_any _ _ _ _ ps _ (HP.out.kept B.out) hn).mono ?_
  rintro e W1 ⟨rfl, b1⟩
  replace L_r := Lib.hid (L_r.out.kept b1 L_r.out.inside)
  replace L_q := Lib.hid (L_q.out.kept b1 L_q.out.inside)
  replace B := Lib.hid (B.out.trans (b1.mono B.out.size))
  clear b1
  have q0 : W1.cell? ⟨w.heap.size, 0, none⟩ = some (.slice A3 n3 c3) := L_q.out.cell 0
  have q1 : W1.cell? ⟨w.heap.size, 1, none⟩ = some (.slice A4 n4 c4) := L_q.out.cell 1
  by_cases hr : rf y1 y2 d = 0
  rotate_left
  · have HC := Lib.hid (chooseF_rf HZ.out hr)
    have hr1 : (rf y1 y2 d != 0) = true := by simpa using hr
    clear hr
    go_wp2_with fail
    refine (specRectFault_any _ _ _ _ _ _ _ _ _ y1 y2 _ (I3.out.kept B.out) (I4.out.kept B.out) m3 m4).mono ?_
    rintro e W2 ⟨rfl, b2⟩
    replace L_r := Lib.hid (L_r.out.kept b2 L_r.out.inside)
    replace B := Lib.hid (B.out.trans (b2.mono B.out.size))
    clear b2 q0 q1
    have z0 : W2.cell? ⟨w.heap.size + 1, 0, none⟩ = some (.int .i64 0) := L_r.out.cell 0
    have z1 : W2.cell? ⟨w.heap.size + 1, 1, none⟩ = some (.int .i64 0) := L_r.out.cell 1
    have f0 : W2.frozen? ⟨w.heap.size + 1, 0, none⟩ = false := L_r.out.thawed 0
    have f1 : W2.frozen? ⟨w.heap.size + 1, 1, none⟩ = false := L_r.out.thawed 1
    go_wp2
    refine bodyPost_ret (v := .agg #[.int .i64 (rf y1 y2 d), .int .i64 0]) (by simp [results, Try.results21, go_sem, z0, z1]) rfl ⟨agg_pair HC.out, ?_⟩
    exact (B.out.setCell (Nat.le_succ _) _).setCell (Nat.le_succ _) _
  have hr1 : (rf y1 y2 d != 0) = false := by simp [hr]
  have HR := Lib.hid hr
  have HY := Lib.hid (right_toNat hd.1 hr)
  clear hr
  go_wp2_with fail
  refine (specRectFault_any _ _ _ _ _ _ _ _ _ y1 y2 _ (I3.out.kept B.out) (I4.out.kept B.out) m3 m4).mono ?_
  rintro e W2 ⟨rfl, b2⟩
  replace L_r := Lib.hid (L_r.out.kept b2 L_r.out.inside)
  replace L_q := Lib.hid (L_q.out.kept b2 L_q.out.inside)
  replace B := Lib.hid (B.out.trans (b2.mono B.out.size))
  clear b2 q0 q1
  by_cases h0 : n = 0
  · have HC := Lib.hid (chooseF_none HZ.out HR.out (HL.out.trans h0))
    have h01 : ((n : Int) == 0) = true := by simp [h0]
    clear h0
    have z0 : W2.cell? ⟨w.heap.size + 1, 0, none⟩ = some (.int .i64 0) := L_r.out.cell 0
    have z1 : W2.cell? ⟨w.heap.size + 1, 1, none⟩ = some (.int .i64 0) := L_r.out.cell 1
    have f0 : W2.frozen? ⟨w.heap.size + 1, 0, none⟩ = false := L_r.out.thawed 0
    have f1 : W2.frozen? ⟨w.heap.size + 1, 1, none⟩ = false := L_r.out.thawed 1
    go_wp2
    refine bodyPost_ret (v := .agg #[.int .i64 4, .int .i64 0]) (by simp [results, Try.results21, go_sem, z0, z1]) rfl ⟨agg_pair HC.out, ?_⟩
    exact (B.out.setCell (Nat.le_succ _) _).setCell (Nat.le_succ _) _
  have hpos : 0 < n := by omega
  have h01 : ((n : Int) == 0) = false := by simp [h0]
  have HC := Lib.hid (chooseF_some HZ.out HR.out (show 0 < (ps.map EV.val).length by rw [HL.out]; exact hpos))
  have e3 : n3 = d.toNat := I3.out.1.symm.trans HY.out.len
  have e4 : n4 = d.toNat := I4.out.1.symm.trans HY.out.len'
  have HRT : Hid (∀ (j : Nat) (u : EVal), (ps.map EV.val)[j]? = some u → Right u.1 u.2.1 d.toNat) := fun j u hu => right_toNat hd.1 (entF_zero (HE.out j u hu)).1
  subst e3
  subst e4
  rw [HL.out] at HC
  clear h0
  go_wp2_with fail
  refine (l5Choose_any _ d.toNat _ _ _ _ _ _ _ ps y1 y2 _ (HP.out.kept B.out) hn hpos HRT.out L_q.out.inside (L_q.out.cell 0) (L_q.out.cell 1) (I3.out.kept B.out) (I4.out.kept B.out) HY.out).mono ?_
  rintro e W3 ⟨rfl, b3⟩
  replace L_r := Lib.hid (L_r.out.kept b3 L_r.out.inside)
  replace B := Lib.hid (B.out.trans (b3.mono B.out.size))
  clear b3
  have z0 : W3.cell? ⟨w.heap.size + 1, 0, none⟩ = some (.int .i64 0) := L_r.out.cell 0
  have z1 : W3.cell? ⟨w.heap.size + 1, 1, none⟩ = some (.int .i64 0) := L_r.out.cell 1
  have f0 : W3.frozen? ⟨w.heap.size + 1, 0, none⟩ = false := L_r.out.thawed 0
  have f1 : W3.frozen? ⟨w.heap.size + 1, 1, none⟩ = false := L_r.out.thawed 1
  go_wp2
  refine bodyPost_ret (v := .agg #[.int .i64 0, .int .i64 ((bestTo (bidsE y1 y2 d.toNat (ps.map EV.val)) n : Nat) : Int)]) (by simp [results, Try.results21, go_sem, z0, z1]) rfl ⟨agg_pair HC.out, ?_⟩
  exact (B.out.setCell (Nat.le_succ _) _).setCell (Nat.le_succ _) _

end Go.Proofs.Ytbnlgmcjklfcoaa
