/- The walks of impl.openEntries and impl.EntriesFault: a list of entries without a fault becomes a bunch with slots in new memory. -/
import Derived.Test.YtbnlgmcjklfcoaaReadNode
import Derived.Test.YtbnlgmcjklfcoaaSpecEntries
namespace Go.Proofs.Ytbnlgmcjklfcoaa
open Go.RowKit

/-- What openEntries answers: a code, or a bunch with slots of its own in a new block. -/
def OpenEnts (d : Int) (n : Nat) (vs : List EVal) (w : World) (e : Ending) (w' : World) : Prop :=
  Below w.heap.size w w' ∧ ((entsF vs d ≠ 0 ∧ e = .returned (.tuple #[.agg #[.int .i64 0, .slice none 0 0], .int .i64 (entsF vs d)])) ∨
    (entsF vs d = 0 ∧ ∃ (A' : Option Addr) (c' : Nat) (ss : List SL), e = .returned (.tuple #[.agg #[.int .i64 d, .slice A' n c'], .int .i64 0]) ∧ Slots w' A' n ss ∧ SlotsOf vs ss ∧ Fresh w.heap.size A' n))

theorem SlotsF.of {W : World} {lo n : Nat} {A : Option Addr} {ss : List SL} (hS : Slots W A n ss) (hF : Fresh lo A n) : SlotsF W lo W.heap.size A n ss := by
  refine ⟨hS, fun b o h0 e => ?_⟩
  obtain ⟨g, e1, h1⟩ := hF h0
  obtain ⟨b2, o2, e2, h2, _⟩ := hS.2 h0
  rw [e] at e1 e2
  injection e1 with e1
  injection e1 with e1 e3
  injection e2 with e2
  injection e2 with e2 e4
  exact ⟨by omega, by omega⟩

set_option maxRecDepth 100000 in
set_option maxHeartbeats 6400000 in
theorem openEntries_any (d : Int) (n c : Nat) (A : Option Addr) (ps : List EV) (w : World) (hp : Entries w A n ps) (hn : n ≤ maxLen) :
    Calls Try.prog 77 #[.slice A n c, .int .i64 d] w (OpenEnts d n (ps.map EV.val) w) := by
  have HP := Lib.hid hp
  have HL : Hid ((ps.map EV.val).length = n) := by show List.length _ = n; rw [List.length_map]; exact hp.1
  clear hp
  have hn0 := hn
  unfold maxLen at hn
  have L_r := Lib.hid (Lies.new w 113 #[.int .i64 0, .slice none 0 0])
  have B := Lib.hid (below_alloc w (.cells #[.int .i64 0, .slice none 0 0] 113))
  have ONE := Lib.hid (one_ints (w.alloc (.cells #[.int .i64 0, .slice none 0 0] 113)) d)
  simp only [World.size_alloc] at ONE
  by_cases hd : 2 ≤ d ∧ d ≤ 3
  rotate_left
  · have HF := Lib.hid (entsF_dims (vs := ps.map EV.val) hd)
    have HA : Hid (allIn 2 3 [d] = false) := by show allIn _ _ _ = _; rw [allIn_one]; simp; omega
    have HNZ : Hid (entsF (ps.map EV.val) d ≠ 0) := by show entsF _ _ ≠ 0; rw [HF.out]; decide
    clear hd
    go_enter Try.func77, Try.ntmps77
    go_wp2_with fail
    refine (within_is 2 3 _ _ _ _ [d] _ false HA.out ONE.out (by decide)).mono ?_
    rintro e w' ⟨rfl, rfl⟩
    replace L_r := Lib.hid (L_r.out.alloc (.cells #[.int .i64 d] 2))
    replace B := Lib.hid (B.out.alloc B.out.size (.cells #[.int .i64 d] 2))
    have z0 : ((w.alloc (.cells #[.int .i64 0, .slice none 0 0] 113)).alloc (.cells #[.int .i64 d] 2)).cell? ⟨w.heap.size, 0, none⟩ = some (.int .i64 0) := L_r.out.cell 0
    have z1 : ((w.alloc (.cells #[.int .i64 0, .slice none 0 0] 113)).alloc (.cells #[.int .i64 d] 2)).cell? ⟨w.heap.size, 1, none⟩ = some (.slice none 0 0) := L_r.out.cell 1
    have y0 : ((w.alloc (.cells #[.int .i64 0, .slice none 0 0] 113)).alloc (.cells #[.int .i64 d] 2)).frozen? ⟨w.heap.size, 0, none⟩ = false := L_r.out.thawed 0
    have y1 : ((w.alloc (.cells #[.int .i64 0, .slice none 0 0] 113)).alloc (.cells #[.int .i64 d] 2)).frozen? ⟨w.heap.size, 1, none⟩ = false := L_r.out.thawed 1
    go_wp2
    refine bodyPost_ret (v := .tuple #[.agg #[.int .i64 0, .slice none 0 0], .int .i64 3]) (by simp [results, Try.results77, go_sem, z0, z1]) rfl ⟨by first | exact B.out | exact (B.out.setCell (Nat.le_refl _) _).setCell (Nat.le_refl _) _, Or.inl ⟨HNZ.out, ret_two rfl (int_val HF.out.symm)⟩⟩
  have HA : Hid (allIn 2 3 [d] = true) := by show allIn _ _ _ = _; rw [allIn_one]; simp; omega
  have HD := Lib.hid hd
  clear hd
  by_cases hm : 8 < n
  · have HF := Lib.hid (entsF_many HD.out (show 8 < (ps.map EV.val).length by rw [HL.out]; exact hm))
    have HNZ : Hid (entsF (ps.map EV.val) d ≠ 0) := by show entsF _ _ ≠ 0; rw [HF.out]; decide
    go_enter Try.func77, Try.ntmps77
    go_wp2_with fail
    refine (within_is 2 3 _ _ _ _ [d] _ true HA.out ONE.out (by decide)).mono ?_
    rintro e w' ⟨rfl, rfl⟩
    replace L_r := Lib.hid (L_r.out.alloc (.cells #[.int .i64 d] 2))
    replace B := Lib.hid (B.out.alloc B.out.size (.cells #[.int .i64 d] 2))
    have z0 : ((w.alloc (.cells #[.int .i64 0, .slice none 0 0] 113)).alloc (.cells #[.int .i64 d] 2)).cell? ⟨w.heap.size, 0, none⟩ = some (.int .i64 0) := L_r.out.cell 0
    have z1 : ((w.alloc (.cells #[.int .i64 0, .slice none 0 0] 113)).alloc (.cells #[.int .i64 d] 2)).cell? ⟨w.heap.size, 1, none⟩ = some (.slice none 0 0) := L_r.out.cell 1
    have y0 : ((w.alloc (.cells #[.int .i64 0, .slice none 0 0] 113)).alloc (.cells #[.int .i64 d] 2)).frozen? ⟨w.heap.size, 0, none⟩ = false := L_r.out.thawed 0
    have y1 : ((w.alloc (.cells #[.int .i64 0, .slice none 0 0] 113)).alloc (.cells #[.int .i64 d] 2)).frozen? ⟨w.heap.size, 1, none⟩ = false := L_r.out.thawed 1
    go_wp2
    refine bodyPost_ret (v := .tuple #[.agg #[.int .i64 0, .slice none 0 0], .int .i64 2]) (by simp [results, Try.results77, go_sem, z0, z1]) rfl ⟨by first | exact B.out | exact (B.out.setCell (Nat.le_refl _) _).setCell (Nat.le_refl _) _, Or.inl ⟨HNZ.out, ret_two rfl (int_val HF.out.symm)⟩⟩
  have HM : Hid (¬ 8 < (ps.map EV.val).length) := by show ¬ _; rw [HL.out]; exact hm
  have hn8 : n ≤ 8 := by omega
  go_enter Try.func77, Try.ntmps77
  go_wp2_with fail
  refine (within_is 2 3 _ _ _ _ [d] _ true HA.out ONE.out (by decide)).mono ?_
  rintro e w' ⟨rfl, rfl⟩
  replace L_r := Lib.hid (L_r.out.alloc (.cells #[.int .i64 d] 2))
  replace B := Lib.hid (B.out.alloc B.out.size (.cells #[.int .i64 d] 2))
  clear HA ONE
  by_cases hz : firstNZ (entF d) (ps.map EV.val) = 0
  rotate_left
  · have hz1 : (firstNZ (entF d) (ps.map EV.val) != 0) = true := by simpa using hz
    have HF := Lib.hid (entsF_first HD.out HM.out hz)
    have HNZ : Hid (entsF (ps.map EV.val) d ≠ 0) := by show entsF _ _ ≠ 0; rw [HF.out]; exact hz
    clear hz
    go_wp2_with fail
    refine (eachFault_any _ _ _ _ ps _ (HP.out.kept B.out) hn0).mono ?_
    rintro e W2 ⟨rfl, b2⟩
    replace L_r := Lib.hid (L_r.out.kept b2 L_r.out.inside)
    replace B := Lib.hid (B.out.trans (b2.mono B.out.size))
    clear b2
    have z0 : W2.cell? ⟨w.heap.size, 0, none⟩ = some (.int .i64 0) := L_r.out.cell 0
    have z1 : W2.cell? ⟨w.heap.size, 1, none⟩ = some (.slice none 0 0) := L_r.out.cell 1
    have y0 : W2.frozen? ⟨w.heap.size, 0, none⟩ = false := L_r.out.thawed 0
    have y1 : W2.frozen? ⟨w.heap.size, 1, none⟩ = false := L_r.out.thawed 1
    go_wp2
    refine bodyPost_ret (v := .tuple #[.agg #[.int .i64 0, .slice none 0 0], .int .i64 (firstNZ (entF d) (ps.map EV.val))]) (by simp [results, Try.results77, go_sem, z0, z1]) rfl ⟨by first | exact B.out | exact (B.out.setCell (Nat.le_refl _) _).setCell (Nat.le_refl _) _, Or.inl ⟨HNZ.out, ret_two rfl (int_val HF.out.symm)⟩⟩
  have hz1 : (firstNZ (entF d) (ps.map EV.val) != 0) = false := by simp [hz]
  have HT := Lib.hid (entsF_twice HD.out HM.out hz)
  have HA := Lib.hid (firstNZ_zero hz)
  clear hz
  go_wp2_with fail
  refine (eachFault_any _ _ _ _ ps _ (HP.out.kept B.out) hn0).mono ?_
  rintro e W2 ⟨rfl, b2⟩
  replace L_r := Lib.hid (L_r.out.kept b2 L_r.out.inside)
  replace B := Lib.hid (B.out.trans (b2.mono B.out.size))
  clear b2
  go_wp2_with fail
  refine (bunchFrom_fresh _ _ _ _ ps _ (HP.out.kept B.out) hn8 HA.out).mono ?_
  rintro e W3 ⟨A', c', ss, rfl, hS, hO, hFr, b3⟩
  have hr2 : w.heap.size < W2.heap.size := L_r.out.inside
  have FR := Lib.hid (hFr.lower B.out.size)
  have hW23 := b3.size
  replace L_r := Lib.hid (L_r.out.kept b3 L_r.out.inside)
  replace B := Lib.hid (B.out.trans (b3.mono B.out.size))
  have HO := Lib.hid hO
  have bQ := below_alloc W3 (.cells #[.int .i64 d, .slice A' n c'] 113)
  have HSF := Lib.hid ((SlotsF.of hS hFr).alloc (.cells #[.int .i64 d, .slice A' n c'] 113))
  have L_b := Lib.hid (Lies.new W3 113 #[.int .i64 d, .slice A' n c'])
  replace L_r := Lib.hid (L_r.out.alloc (.cells #[.int .i64 d, .slice A' n c'] 113))
  replace B := Lib.hid (B.out.alloc B.out.size (.cells #[.int .i64 d, .slice A' n c'] 113))
  clear hS hO b3 hFr bQ
  go_wp2_with fail
  refine (refTwice_any _ _ _ _ (ps.map EV.val) ss _ HSF.out.S HO.out hn0).mono ?_
  rintro e W4 ⟨rfl, b4⟩
  have HSF4 : Hid (SlotsF W4 W2.heap.size W3.heap.size A' n ss) := ⟨HSF.out.S.kept b4, HSF.out.I⟩
  replace L_r := Lib.hid (L_r.out.kept b4 L_r.out.inside)
  replace L_b := Lib.hid (L_b.out.kept b4 L_b.out.inside)
  replace B := Lib.hid (B.out.trans (b4.mono B.out.size))
  clear b4 HSF
  cases ht : twiceE (ps.map EV.val)
  · have HF : Hid (entsF (ps.map EV.val) d = 0) := by show entsF _ _ = _; rw [HT.out, ht]; rfl
    clear ht HT
    have z0 : W4.cell? ⟨w.heap.size, 0, none⟩ = some (.int .i64 0) := L_r.out.cell 0
    have z1 : W4.cell? ⟨w.heap.size, 1, none⟩ = some (.slice none 0 0) := L_r.out.cell 1
    have y0 : W4.frozen? ⟨w.heap.size, 0, none⟩ = false := L_r.out.thawed 0
    have y1 : W4.frozen? ⟨w.heap.size, 1, none⟩ = false := L_r.out.thawed 1
    have x0 : W4.cell? ⟨W3.heap.size, 0, none⟩ = some (.int .i64 d) := L_b.out.cell 0
    have x1 : W4.cell? ⟨W3.heap.size, 1, none⟩ = some (.slice A' n c') := L_b.out.cell 1
    go_wp2
    refine bodyPost_ret (v := .tuple #[.agg #[.int .i64 d, .slice A' n c'], .int .i64 0]) (by simp [results, Try.results77, go_sem, z0, z1]) rfl ⟨(B.out.setCell (Nat.le_refl _) _).setCell (Nat.le_refl _) _, Or.inr ⟨HF.out, A', c', ss, rfl, ?_, HO.out, FR.out⟩⟩
    exact ((HSF4.out.far (Or.inl hr2) _).far (Or.inl hr2) _).S
  · have HF : Hid (entsF (ps.map EV.val) d = 6) := by show entsF _ _ = _; rw [HT.out, ht]; rfl
    have HNZ : Hid (entsF (ps.map EV.val) d ≠ 0) := by show entsF _ _ ≠ 0; rw [HF.out]; decide
    clear ht HT
    have z0 : W4.cell? ⟨w.heap.size, 0, none⟩ = some (.int .i64 0) := L_r.out.cell 0
    have z1 : W4.cell? ⟨w.heap.size, 1, none⟩ = some (.slice none 0 0) := L_r.out.cell 1
    have y0 : W4.frozen? ⟨w.heap.size, 0, none⟩ = false := L_r.out.thawed 0
    have y1 : W4.frozen? ⟨w.heap.size, 1, none⟩ = false := L_r.out.thawed 1
    go_wp2
    refine bodyPost_ret (v := .tuple #[.agg #[.int .i64 0, .slice none 0 0], .int .i64 6]) (by simp [results, Try.results77, go_sem, z0, z1]) rfl ⟨by first | exact B.out | exact (B.out.setCell (Nat.le_refl _) _).setCell (Nat.le_refl _) _, Or.inl ⟨HNZ.out, ret_two rfl (int_val HF.out.symm)⟩⟩

set_option maxHeartbeats 800000 in
theorem implEntriesFault_any (d : Int) (n c : Nat) (A : Option Addr) (ps : List EV) (w : World) (hp : Entries w A n ps) (hn : n ≤ maxLen) :
    Calls Try.prog 18 #[.slice A n c, .int .i64 d] w fun e w' => e = .returned (.int .i64 (entsF (ps.map EV.val) d)) ∧ Below w.heap.size w w' := by
  have HP := Lib.hid hp
  clear hp
  go_enter Try.func18, Try.ntmps18
  go_wp2_with fail
  refine (openEntries_any _ _ _ _ ps _ HP.out hn).mono ?_
  rintro e W1 ⟨b1, h⟩
  have B := Lib.hid b1
  clear b1
  rcases h with ⟨_, rfl⟩ | ⟨h0, A', c', ss, rfl, _, _, _⟩
  · go_wp2
    go_ret
    exact ⟨rfl, by first | exact B.out | exact B.out.alloc B.out.size _⟩
  · have H0 := Lib.hid h0
    clear h0
    go_wp2
    go_ret
    exact ⟨ret_i64 H0.out.symm, by first | exact B.out | exact B.out.alloc B.out.size _⟩

end Go.Proofs.Ytbnlgmcjklfcoaa
