/- The walks of impl.groundFault, impl.openArena and impl.ArenaFault. -/
import Derived.Test.YtblhcnafoejahaaRetireAll
namespace Go.Proofs.Ytblhcnafoejahaa
open Go.RowKit

/-- What is wrong with the dimensions, or with how many places there are. -/
def groundF (d n : Int) : Int := if 2 ≤ d ∧ d ≤ 3 then (if 4 ≤ n ∧ n ≤ 40 then 0 else 2) else 3

set_option maxHeartbeats 800000 in
theorem groundFault_any (d n : Int) (w : World) :
    Calls Try.prog 51 #[.int .i64 d, .int .i64 n] w fun e w' => e = .returned (.int .i64 (groundF d n)) ∧ Below w.heap.size w w' := by
  have B1 := Lib.hid (below_alloc w (.cells #[.int .i64 d] 2))
  have B2 := Lib.hid (B1.out.alloc B1.out.size (.cells #[.int .i64 n] 2))
  have O1 := Lib.hid (one_ints w d)
  have O2 := Lib.hid (one_ints (w.alloc (.cells #[.int .i64 d] 2)) n)
  simp only [World.size_alloc] at O2
  by_cases hd : 2 ≤ d ∧ d ≤ 3
  rotate_left
  · have HF : Hid (groundF d n = 3) := by show groundF _ _ = _; unfold groundF; rw [if_neg hd]
    have HA : Hid (allIn 2 3 [d] = false) := by show allIn _ _ _ = _; rw [allIn_two]; simpa using hd
    go_enter Try.func51, Try.ntmps51
    go_wp2_with fail
    refine (within_is 2 3 _ _ _ _ [d] _ false HA.out O1.out (by decide)).mono ?_
    rintro e w' ⟨rfl, rfl⟩
    go_wp2
    go_ret
    exact ⟨ret_i64 HF.out.symm, B1.out⟩
  have HA : Hid (allIn 2 3 [d] = true) := by show allIn _ _ _ = _; rw [allIn_two]; simpa using hd
  by_cases hn : 4 ≤ n ∧ n ≤ 40
  rotate_left
  · have HF : Hid (groundF d n = 2) := by show groundF _ _ = _; unfold groundF; rw [if_pos hd, if_neg hn]
    have HC : Hid (allIn 4 40 [n] = false) := by show allIn _ _ _ = _; rw [allIn_two]; simpa using hn
    go_enter Try.func51, Try.ntmps51
    go_wp2_with fail
    refine (within_is 2 3 _ _ _ _ [d] _ true HA.out O1.out (by decide)).mono ?_
    rintro e w' ⟨rfl, rfl⟩
    go_wp2_with fail
    refine (within_is 4 40 _ _ _ _ [n] _ false HC.out O2.out (by decide)).mono ?_
    rintro e w' ⟨rfl, rfl⟩
    go_wp2
    go_ret
    exact ⟨ret_i64 HF.out.symm, B2.out⟩
  have HF : Hid (groundF d n = 0) := by show groundF _ _ = _; unfold groundF; rw [if_pos hd, if_pos hn]
  have HC : Hid (allIn 4 40 [n] = true) := by show allIn _ _ _ = _; rw [allIn_two]; simpa using hn
  go_enter Try.func51, Try.ntmps51
  go_wp2_with fail
  refine (within_is 2 3 _ _ _ _ [d] _ true HA.out O1.out (by decide)).mono ?_
  rintro e w' ⟨rfl, rfl⟩
  go_wp2_with fail
  refine (within_is 4 40 _ _ _ _ [n] _ true HC.out O2.out (by decide)).mono ?_
  rintro e w' ⟨rfl, rfl⟩
  go_wp2
  go_ret
  exact ⟨ret_i64 HF.out.symm, B2.out⟩

/-- An arena that was opened: its places, which of them are free, the retired ones. -/
def Opened (w w' : World) (d : Int) (n1 n3 : Nat) (ns : List NVal) (fs : List Int) (rs : List RVal) (G : Nat) : Prop :=
  ∃ lo M o pb cp qs f, Ret w' lo G M d o pb cp n1 qs n3 n3 (rs.map (·.1)) f ∧ qs.map LV.val = ns ∧ (∀ (i : Nat) (q : LV), qs[i]? = some q → q.fr = fs.contains (i : Int)) ∧ w.heap.size ≤ G ∧ w.heap.size ≤ M ∧ lo ≤ w'.heap.size ∧ Watched qs f rs ∧ w.heap.size ≤ lo
theorem Kept.vals {ps qs : List LV} (h : Kept ps qs) : qs.map LV.val = ps.map LV.val := by
  apply List.ext_getElem?
  intro i
  rw [List.getElem?_map, List.getElem?_map]
  cases hq : qs[i]? with
  | none => rw [List.getElem?_eq_none_iff.2 (by rw [← h.1]; exact List.getElem?_eq_none_iff.1 hq)]
  | some q =>
    obtain ⟨p, hp, _, h3, _⟩ := h.2 i q hq
    rw [hp]; simp [h3]



end Go.Proofs.Ytblhcnafoejahaa
