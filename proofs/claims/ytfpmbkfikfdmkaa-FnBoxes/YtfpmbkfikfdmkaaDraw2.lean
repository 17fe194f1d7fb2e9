/- The draws: one of several numbers, a chance, a coordinate. -/
import Derived.Test.YtfpmbkfikfdmkaaDraw1
namespace Go.Proofs.Ytfpmbkfikfdmkaa
open Go.RowKit

/-- What a draw leaves: the source goes on, and of what there was nothing has turned but it. -/
structure Drew1 (w w' : World) (lo g : Nat) (M : Int) : Prop where
  s : Src w' lo g M
  T : Turned (fun x => x = g) w w'
theorem Drew1.mono {w w' : World} {lo g : Nat} {M M' : Int} (h : Drew1 w w' lo g M) (hm : M ≤ M') : Drew1 w w' lo g M' := ⟨h.s.low (Below.refl _ _) rfl hm, h.T⟩
theorem Drew1.trans {w w1 w2 : World} {lo g : Nat} {M M' : Int} (h : Drew1 w w1 lo g M) (h' : Drew1 w1 w2 lo g M') : Drew1 w w2 lo g M' := ⟨h'.s, h.T.trans h'.T⟩
theorem Drew1.below {w w' w'' : World} {lo g : Nat} {M : Int} (h : Drew1 w w' lo g M) (hb : Below w'.heap.size w' w'') : Drew1 w w'' lo g M := ⟨h.s.kept hb, h.T.trans (Turned.of_below hb)⟩
theorem Drew1.start {w : World} {lo g : Nat} {M : Int} (h : Src w lo g M) : Drew1 w w lo g M := ⟨h, Turned.refl _ _⟩
theorem Drew1.low {w w' : World} {lo g : Nat} {M : Int} (h : Drew1 w w' lo g M) (hl : lo ≤ w.heap.size) : Below lo w w' := h.T.1 lo (fun k e => by subst e; exact h.s.inside.1) hl
theorem Drew1.size {w w' : World} {lo g : Nat} {M : Int} (h : Drew1 w w' lo g M) : w.heap.size ≤ w'.heap.size := h.T.2.1
theorem Drew1.ints {w w' : World} {lo g l n : Nat} {M : Int} {A : Option Addr} {xs : List Int} (h : Drew1 w w' lo g M) (hi : Ints w l A n xs) (hl : g < l) : Ints w' l A n xs := by
  obtain ⟨h0, hr⟩ := hi
  refine ⟨h0, fun hn => ?_⟩
  obtain ⟨b, o, e, h1, h2, h3⟩ := hr hn
  exact ⟨b, o, e, h1, Nat.lt_of_lt_of_le h2 h.T.2.1, fun k x hx => (World.cell?_of_block (w := w) (a := ⟨b, o + k, none⟩) (h.T.2.2 b h2 (by show b ≠ g; omega))).trans (h3 k x hx)⟩

set_option maxRecDepth 100000 in
set_option maxHeartbeats 1600000 in
theorem l1Pick_any (lo g l n c : Nat) (A : Option Addr) (xs : List Int) (M : Int) (w : World) (hs : Src w lo g M) (hM : M ≤ 1000000) (hi : Ints w l A n xs) (hl : g < l) (h0 : 0 < n) (hn : n ≤ 60000) :
    Calls Try.prog 67 #[.pointer (some ⟨g, 0, none⟩), .slice A n c] w fun e w' => ∃ v : Int, e = .returned (.int .i64 v) ∧ v ∈ xs ∧ Drew1 w w' lo g (M + 1) := by
  have HS := Lib.hid hs
  have HI := Lib.hid hi
  clear hs hi
  go_enter Try.func67, Try.ntmps67
  go_wp2_with fail
  refine (l1Next_any lo g n M _ HS.out hM (by omega) (by omega)).mono ?_
  rintro e W1 ⟨v, rfl, ⟨v0, v1⟩, s1, t1⟩
  have D1 : Hid (Drew1 w W1 lo g (M + 1)) := ⟨s1, t1⟩
  clear s1 t1
  obtain ⟨k, rfl⟩ := Int.eq_ofNat_of_zero_le v0
  have hk : k < n := by omega
  obtain ⟨b, o, x, rfl, _, _, hc, hx⟩ := (D1.out.ints HI.out hl).cellAt hk
  have HX := Lib.hid (List.mem_of_getElem? hx.out)
  clear hx
  go_wp2
  go_ret
  exact ⟨x, rfl, HX.out, D1.out⟩

set_option maxHeartbeats 1600000 in
theorem l1Chance_any (lo g : Nat) (m M : Int) (w : World) (hs : Src w lo g M) (hM : M ≤ 1000000) (m1 : 1 ≤ m) (m2 : m ≤ 60000) :
    Calls Try.prog 63 #[.pointer (some ⟨g, 0, none⟩), .int .i64 m] w fun e w' => ∃ v : Bool, e = .returned (.bool v) ∧ Drew1 w w' lo g (M + 1) := by
  have HS := Lib.hid hs
  clear hs
  go_enter Try.func63, Try.ntmps63
  go_wp2_with fail
  refine (l1Next_any lo g m M _ HS.out hM m1 m2).mono ?_
  rintro e W1 ⟨v, rfl, _, s1, t1⟩
  by_cases hv : v = 0
  · have hv1 : (v == 0) = true := by simpa using hv
    go_wp2
    go_ret
    exact ⟨_, rfl, s1, t1⟩
  · have hv1 : (v == 0) = false := by simpa using hv
    go_wp2
    go_ret
    exact ⟨_, rfl, s1, t1⟩

/-- A row that has just been laid. -/
theorem ints_laid (w : World) (xs : List Int) (hx : 0 < xs.length) : Ints (w.alloc (.cells (xs.map (Value.int .i64)).toArray 2)) w.heap.size (some ⟨w.heap.size, 0, none⟩) xs.length xs :=
  ⟨rfl, fun _ => ⟨_, _, rfl, Nat.le_refl _, by simp, fun k x hk => by rw [Nat.zero_add, cell_new]; simp [hk]⟩⟩

set_option maxRecDepth 100000 in
set_option maxHeartbeats 1600000 in
theorem l1Dims_any (lo g : Nat) (M : Int) (w : World) (hs : Src w lo g M) (hM : M ≤ 1000000) :
    Calls Try.prog 61 #[.pointer (some ⟨g, 0, none⟩)] w fun e w' => ∃ v : Nat, e = .returned (.int .i64 v) ∧ (v = 2 ∨ v = 3) ∧ Drew1 w w' lo g (M + 1) := by
  have hg := hs.inside.2
  have B := below_alloc w (.cells #[.int .i64 2, .int .i64 2, .int .i64 3] 2)
  have HS := Lib.hid (hs.kept B)
  have HI := Lib.hid (ints_laid w [2, 2, 3] (by decide))
  have D0 := Lib.hid ((Drew1.start hs).below B)
  clear hs B
  go_enter Try.func61, Try.ntmps61
  go_wp2_with fail
  refine (l1Pick_any lo g w.heap.size 3 _ _ [2, 2, 3] M _ HS.out hM HI.out hg (by decide) (by decide)).mono ?_
  rintro e W1 ⟨v, rfl, hv, d1⟩
  have D1 := Lib.hid (D0.out.trans d1)
  have hv2 : v = 2 ∨ v = 3 := by simpa using hv
  clear d1 hv
  go_wp2
  go_ret
  rcases hv2 with rfl | rfl
  · exact ⟨2, rfl, Or.inl rfl, D1.out⟩
  · exact ⟨3, rfl, Or.inr rfl, D1.out⟩

set_option maxRecDepth 100000 in
set_option maxHeartbeats 3200000 in
theorem l1Coord_any (lo g : Nat) (M : Int) (w : World) (hs : Src w lo g M) (hM : M ≤ 999000) :
    Calls Try.prog 141 #[.pointer (some ⟨g, 0, none⟩)] w fun e w' => ∃ v : Int, e = .returned (.int .i64 v) ∧ (-1000 ≤ v ∧ v ≤ 1000) ∧ Drew1 w w' lo g (M + 5) := by
  have hg := hs.inside.2
  have D0 := Lib.hid (Drew1.start hs)
  clear hs
  go_enter Try.func141, Try.ntmps141
  go_wp2_with fail
  refine (l1Next_any lo g 20 M _ D0.out.s (by omega) (by decide) (by decide)).mono ?_
  rintro e W1 ⟨a, rfl, ⟨a0, a1⟩, s1, t1⟩
  have D1 := Lib.hid (D0.out.trans ⟨s1, t1⟩)
  clear s1 t1 D0
  go_wp2_with fail
  refine (l1Next_any lo g 20 _ _ D1.out.s (by omega) (by decide) (by decide)).mono ?_
  rintro e W2 ⟨b, rfl, ⟨b0, b1⟩, s1, t1⟩
  have D2 := Lib.hid (D1.out.trans ⟨s1, t1⟩)
  clear s1 t1 D1
  go_wp2_with fail
  refine (l1Next_any lo g 20 _ _ D2.out.s (by omega) (by decide) (by decide)).mono ?_
  rintro e W3 ⟨c, rfl, ⟨c0, c1⟩, s1, t1⟩
  have D3 := Lib.hid (D2.out.trans ⟨s1, t1⟩)
  clear s1 t1 D2
  go_wp2_with fail
  refine (l1Next_any lo g 300 _ _ D3.out.s (by omega) (by decide) (by decide)).mono ?_
  rintro e W4 ⟨d, rfl, ⟨d0, d1⟩, s1, t1⟩
  have D4 := Lib.hid (D3.out.trans ⟨s1, t1⟩)
  clear s1 t1 D3
  have hg4 : g < W4.heap.size := D4.out.s.inside.2
  have B := below_alloc W4 (.cells #[.int .i64 a, .int .i64 b, .int .i64 (c - 10), .int .i64 (d * 3 - 400), .int .i64 1000, .int .i64 (-1000)] 2)
  have HI := Lib.hid (ints_laid W4 [a, b, c - 10, d * 3 - 400, 1000, -1000] (by simp))
  have D5 := Lib.hid (D4.out.below B)
  clear B D4
  go_wp2_with fail
  refine (l1Pick_any lo g W4.heap.size 6 _ _ [a, b, c - 10, d * 3 - 400, 1000, -1000] _ _ D5.out.s (by omega) HI.out hg4 (by decide) (by decide)).mono ?_
  rintro e W5 ⟨v, rfl, hv, d6⟩
  have D6 := Lib.hid ((D5.out.trans d6).mono (show _ ≤ M + 5 by omega))
  have hv2 : -1000 ≤ v ∧ v ≤ 1000 := by
    simp only [List.mem_cons, List.not_mem_nil, or_false] at hv
    omega
  clear d6 hv
  go_wp2
  go_ret
  exact ⟨v, rfl, hv2, D6.out⟩

end Go.Proofs.Ytfpmbkfikfdmkaa
