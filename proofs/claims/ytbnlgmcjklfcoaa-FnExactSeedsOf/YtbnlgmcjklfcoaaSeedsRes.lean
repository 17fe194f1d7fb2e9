/- An answer that is a code and a row of numbers; the marks on it; the walks of spec.SeedsOf and impl.SeedsOf. No condition but lengths. -/
import Derived.Test.YtbnlgmcjklfcoaaImplSeeds2
import Derived.Test.YtbnlgmcjklfcoaaSpecSeeds
import Derived.Test.YtbnlgmcjklfcoaaMarks2
import Derived.Test.YtbnlgmcjklfcoaaMarkNode
namespace Go.Proofs.Ytbnlgmcjklfcoaa
open Go.RowKit

/-- A row of at most two numbers that an answer owns, in a block from base on; or none. -/
def Rowed (w : World) (base : Nat) (A : Option Addr) (n c : Nat) (xs : List Int) : Prop :=
  (A = none ∧ n = 0 ∧ c = 0 ∧ xs = []) ∨ ∃ g, A = some ⟨g, 0, none⟩ ∧ base ≤ g ∧ Own w g n xs ∧ n ≤ 2
theorem Rowed.none (w : World) (base : Nat) : Rowed w base none 0 0 [] := Or.inl ⟨rfl, rfl, rfl, rfl⟩
theorem Rowed.ints {w : World} {base n c : Nat} {A : Option Addr} {xs : List Int} (h : Rowed w base A n c xs) : Ints w 0 A n xs := by
  rcases h with ⟨rfl, rfl, rfl, rfl⟩ | ⟨g, rfl, _, ho, _⟩
  · exact Ints.empty _ _ _
  · exact ho.ints (Nat.zero_le _)
theorem Rowed.two {w : World} {base n c : Nat} {A : Option Addr} {xs : List Int} (h : Rowed w base A n c xs) : n ≤ 2 := by
  rcases h with ⟨_, rfl, _, _⟩ | ⟨g, _, _, _, h⟩
  · omega
  · exact h
theorem Rowed.hi {w : World} {base n c : Nat} {A : Option Addr} {xs : List Int} (h : Rowed w base A n c xs) : ∀ b o, A = some ⟨b, o, .none⟩ → base ≤ b ∧ b < w.heap.size := by
  intro b o e
  rcases h with ⟨rfl, _⟩ | ⟨g, rfl, h1, ho, _⟩
  · simp at e
  · injection e with e
    injection e with e1 e2
    subst e1
    exact ⟨h1, ho.inside⟩
theorem Rowed.kept {w w' : World} {base n c : Nat} {A : Option Addr} {xs : List Int} (h : Rowed w base A n c xs) (hb : Below w.heap.size w w') : Rowed w' base A n c xs := by
  rcases h with h | ⟨g, e, h1, ho, h2⟩
  · exact Or.inl h
  · exact Or.inr ⟨g, e, h1, ho.kept hb, h2⟩
theorem Rowed.lower {w : World} {base base' n c : Nat} {A : Option Addr} {xs : List Int} (h : Rowed w base A n c xs) (hb : base' ≤ base) : Rowed w base' A n c xs := by
  rcases h with h | ⟨g, e, h1, ho, h2⟩
  · exact Or.inl h
  · exact Or.inr ⟨g, e, by omega, ho, h2⟩
theorem Rowed.turned {G : Nat → Prop} {w w' : World} {base n c : Nat} {A : Option Addr} {xs : List Int} (h : Rowed w base A n c xs) (ht : Turned G w w') (hG : ∀ x, base ≤ x → x < w.heap.size → ¬ G x) : Rowed w' base A n c xs := by
  rcases h with h | ⟨g, e, h1, ho, h2⟩
  · exact Or.inl h
  · exact Or.inr ⟨g, e, h1, ht.own ho (hG g h1 ho.inside), h2⟩

set_option maxHeartbeats 800000 in
theorem markIntsResult_any (k cd : Int) (n c base : Nat) (A : Option Addr) (xs : List Int) (w : World) (h : Rowed w base A n c xs) (h0 : 0 ≤ k) (h1 : k ≤ 1048576) :
    Calls Try.prog 30 #[.agg #[.int .i64 cd, .slice A n c], .int .i64 k] w fun e w' => e = .returned (.int .i64 (k + n)) ∧ Rowed w' base A n c (marks k n) ∧ Turned (fun x => A = some ⟨x, 0, none⟩) w w' := by
  have B := below_alloc w (.cells #[.int .i64 cd, .slice A n c] 42)
  have T : Hid (Turned (fun x => A = some ⟨x, 0, none⟩) w (w.alloc (.cells #[.int .i64 cd, .slice A n c] 42))) := Turned.of_below B
  rcases h with ⟨rfl, rfl, rfl, rfl⟩ | ⟨g, rfl, hg, ho, h2⟩
  · clear B
    go_enter Try.func30, Try.ntmps30
    go_wp2_with fail
    refine (markInt64S_none k _).mono ?_
    rintro e W1 ⟨rfl, b1⟩
    go_wp2
    go_ret
    exact ⟨by simp, Or.inl ⟨rfl, rfl, rfl, rfl⟩, T.out.trans (Turned.of_below b1)⟩
  · have O := Lib.hid (ho.kept B)
    clear B ho
    go_enter Try.func30, Try.ntmps30
    go_wp2_with fail
    refine (markInt64S_any k n c g xs _ O.out h0 (by omega) (by omega)).mono ?_
    rintro e W1 ⟨rfl, o1, t1⟩
    have TT := Lib.hid (T.out.trans (t1.wider (fun x hx => by subst hx; rfl)))
    have O1 := Lib.hid o1
    clear t1 o1
    go_wp2
    go_ret
    exact ⟨rfl, Or.inr ⟨g, rfl, hg, O1.out, h2⟩, TT.out⟩

set_option maxHeartbeats 800000 in
theorem heldIntsResult_any (k cd : Int) (n c base : Nat) (A : Option Addr) (w : World) (h : Rowed w base A n c (marks k n)) (h0 : 0 ≤ k) (h1 : k ≤ 1048576) :
    Calls Try.prog 31 #[.agg #[.int .i64 cd, .slice A n c], .int .i64 k] w fun e w' => e = .returned (.int .i64 (k + n)) ∧ Below w.heap.size w w' := by
  have B := Lib.hid (below_alloc w (.cells #[.int .i64 cd, .slice A n c] 42))
  have HI := Lib.hid (h.ints.kept B.out)
  have h2 := h.two
  clear h
  have hk : ¬ k + (n : Int) < 0 := by omega
  go_enter Try.func31, Try.ntmps31
  go_wp2_with fail
  refine (heldInt64S_any k n c 0 A _ HI.out h0 (by omega) (by omega)).mono ?_
  rintro e W1 ⟨rfl, b1⟩
  replace B := Lib.hid (B.out.trans (b1.mono B.out.size))
  clear b1
  go_wp2
  go_ret
  exact ⟨rfl, B.out⟩

set_option maxHeartbeats 800000 in
theorem eqIntsResult_same (cd : Int) (n c n' c' : Nat) (A A' : Option Addr) (xs : List Int) (w : World) (hx : Ints w 0 A n xs) (hy : Ints w 0 A' n' xs) (hn : n ≤ 2) :
    Calls Try.prog 28 #[.agg #[.int .i64 cd, .slice A n c], .agg #[.int .i64 cd, .slice A' n' c']] w fun e w' => e = .returned (.bool true) ∧ Below w.heap.size w w' := by
  have B := Lib.hid (below_alloc w (.cells #[.int .i64 cd, .slice A n c] 42))
  have L0 := Lib.hid ((Lies.new w 42 #[.int .i64 cd, .slice A n c]).alloc (.cells #[.int .i64 cd, .slice A' n' c'] 42))
  have L1 := Lib.hid (Lies.new (w.alloc (.cells #[.int .i64 cd, .slice A n c] 42)) 42 #[.int .i64 cd, .slice A' n' c'])
  replace B := Lib.hid (B.out.alloc B.out.size (.cells #[.int .i64 cd, .slice A' n' c'] 42))
  simp only [World.size_alloc] at L1
  have HX := Lib.hid (hx.kept B.out)
  have HY := Lib.hid (hy.kept B.out)
  clear hx hy
  have hq : (cd != cd) = false := by simp
  go_enter Try.func28, Try.ntmps28
  go_wp2_with fail
  refine (eqInt64S_is true 0 n c 0 n' c' A A' xs xs _ (by simp) (by first | exact HX.out | exact HX.out.kept (below_draws (Below.refl _ _) _)) (by first | exact HY.out | exact HY.out.kept (below_draws (Below.refl _ _) _)) (by unfold maxLen; omega)).mono ?_
  rintro e W1 ⟨rfl, q, rfl⟩
  go_wp2
  go_ret
  exact ⟨rfl, by first | exact below_draws B.out _ | exact below_draws (below_draws B.out _) _⟩

/-- The places that SeedsOf tells. -/
def seedsL (vs : List EVal) (d : Int) : List Int := if enoughF vs d = 0 then [(((seedOut vs d.toNat vs.length vs.length).1 : Nat) : Int), (((seedOut vs d.toNat vs.length vs.length).2 : Nat) : Int)] else []
theorem seedsL_no {vs : List EVal} {d : Int} (h : enoughF vs d ≠ 0) : seedsL vs d = [] := by unfold seedsL; rw [if_neg h]
theorem seedsL_yes {vs : List EVal} {d : Int} (h : enoughF vs d = 0) : seedsL vs d = [(((seedOut vs d.toNat vs.length vs.length).1 : Nat) : Int), (((seedOut vs d.toNat vs.length vs.length).2 : Nat) : Int)] := by unfold seedsL; rw [if_pos h]
/-- What SeedsOf answers. -/
def SeedsPost (cd : Int) (L : List Int) (w : World) (e : Ending) (w' : World) : Prop :=
  ∃ (A : Option Addr) (n c : Nat), e = .returned (.agg #[.int .i64 cd, .slice A n c]) ∧ Rowed w' w.heap.size A n c L ∧ Below w.heap.size w w'
theorem two_own {w : World} {g : Nat} {a b : Int} (h : Lies w g 2 #[.int .i64 a, .int .i64 b]) : Own w g 2 [a, b] := own_of_lies rfl h rfl
theorem right_all {vs : List EVal} {d : Int} (hd : 2 ≤ d) (h : ∀ (j : Nat) (u : EVal), vs[j]? = some u → entF d u = 0) : ∀ (j : Nat) (u : EVal), vs[j]? = some u → Right u.1 u.2.1 d.toNat :=
  fun j u hu => right_of_rf (by rw [show ((d.toNat : Nat) : Int) = d by omega]; exact (entF_zero (h j u hu)).1)

set_option maxRecDepth 100000 in
set_option maxHeartbeats 3200000 in
theorem specSeedsOf_is (cd d : Int) (L : List Int) (n c : Nat) (A : Option Addr) (ps : List EV) (vs : List EVal) (w : World) (hp : Entries w A n ps) (hn : n ≤ maxLen) (hv : ps.map EV.val = vs) (hc : enoughF vs d = cd) (hL : seedsL vs d = L) :
    Calls Try.prog 26 #[.slice A n c, .int .i64 d] w (SeedsPost cd L w) := by
  have HP := Lib.hid hp
  have HN : Hid ((ps.map EV.val).length = n) := by show List.length _ = n; rw [List.length_map]; exact hp.1
  subst hv
  clear hp
  have B := Lib.hid (below_alloc w (.cells #[.int .i64 0, .slice none 0 0] 42))
  have L_r := Lib.hid (Lies.new w 42 #[.int .i64 0, .slice none 0 0])
  by_cases hz : enoughF (ps.map EV.val) d = 0
  rotate_left
  · have hz1 : (enoughF (ps.map EV.val) d != 0) = true := by simpa using hz
    rw [seedsL_no hz] at hL
    subst hL
    subst hc
    clear hz
    go_enter Try.func26, Try.ntmps26
    go_wp2_with fail
    refine (l5Enough_any _ _ _ _ ps _ (HP.out.kept B.out) hn).mono ?_
    rintro e W1 ⟨rfl, b1⟩
    replace L_r := Lib.hid (L_r.out.kept b1 L_r.out.inside)
    replace B := Lib.hid (B.out.trans (b1.mono B.out.size))
    clear b1
    have z0 : W1.cell? ⟨w.heap.size, 0, none⟩ = some (.int .i64 0) := L_r.out.cell 0
    have z1 : W1.cell? ⟨w.heap.size, 1, none⟩ = some (.slice none 0 0) := L_r.out.cell 1
    have y0 : W1.frozen? ⟨w.heap.size, 0, none⟩ = false := L_r.out.thawed 0
    have y1 : W1.frozen? ⟨w.heap.size, 1, none⟩ = false := L_r.out.thawed 1
    go_wp2
    refine bodyPost_ret (v := .agg #[.int .i64 (enoughF (ps.map EV.val) d), .slice none 0 0]) (by simp [results, Try.results26, go_sem, z0, z1]) rfl ⟨none, 0, 0, rfl, Rowed.none _ _, ?_⟩
    exact (B.out.setCell (Nat.le_refl _) _).setCell (Nat.le_refl _) _
  have hz1 : (enoughF (ps.map EV.val) d != 0) = false := by simp [hz]
  rw [seedsL_yes hz, HN.out] at hL
  rw [hz] at hc
  subst hc
  obtain ⟨he, h4⟩ := enoughF_zero hz
  rw [HN.out] at h4
  obtain ⟨hd, _, hent, _⟩ := entsF_zero he
  have HR := Lib.hid (right_all hd.1 hent)
  clear hz he hent
  obtain ⟨x, hx⟩ : ∃ x : Int, x = (((seedOut (ps.map EV.val) d.toNat n n).1 : Nat) : Int) := ⟨_, rfl⟩
  obtain ⟨y, hy⟩ : ∃ y : Int, y = (((seedOut (ps.map EV.val) d.toNat n n).2 : Nat) : Int) := ⟨_, rfl⟩
  rw [← hx, ← hy] at hL
  subst hL
  go_enter Try.func26, Try.ntmps26
  go_wp2_with fail
  refine (l5Enough_any _ _ _ _ ps _ (HP.out.kept B.out) hn).mono ?_
  rintro e W1 ⟨rfl, b1⟩
  replace L_r := Lib.hid (L_r.out.kept b1 L_r.out.inside)
  replace B := Lib.hid (B.out.trans (b1.mono B.out.size))
  clear b1
  go_wp2_with fail
  refine (l5Seeds_any d.toNat _ _ _ ps _ (HP.out.kept B.out) hn (by omega) HR.out).mono ?_
  rintro e W2 ⟨rfl, b2⟩
  rw [← hx, ← hy]
  replace L_r := Lib.hid (L_r.out.kept b2 L_r.out.inside)
  replace B := Lib.hid (B.out.trans (b2.mono B.out.size))
  clear b2 hx hy
  have hs := L_r.out.inside
  have v0 : W2.cell? ⟨w.heap.size, 0, none⟩ = some (.int .i64 0) := L_r.out.cell 0
  have v1 : W2.cell? ⟨w.heap.size, 1, none⟩ = some (.slice none 0 0) := L_r.out.cell 1
  have u0 : W2.frozen? ⟨w.heap.size, 0, none⟩ = false := L_r.out.thawed 0
  have u1 : W2.frozen? ⟨w.heap.size, 1, none⟩ = false := L_r.out.thawed 1
  have hne1 : ¬ w.heap.size = W2.heap.size := by omega
  have hne2 : ¬ W2.heap.size = w.heap.size := by omega
  have L_l : Lies (((W2.setCell ⟨w.heap.size, 0, none⟩ (.int .i64 0)).setCell ⟨w.heap.size, 1, none⟩ (.slice (some ⟨W2.heap.size, 0, none⟩) 2 2)).alloc (.cells #[.int .i64 x, .int .i64 y] 2)) W2.heap.size 2 #[.int .i64 x, .int .i64 y] := Lies.laid (by simp only [size_of_setCell])
  have LR9 := ((L_r.out.set 0 (.int .i64 0)).set 1 (.slice (some ⟨W2.heap.size, 0, none⟩) 2 2)).alloc (.cells #[.int .i64 x, .int .i64 y] 2)
  have x0 : (((W2.setCell ⟨w.heap.size, 0, none⟩ (.int .i64 0)).setCell ⟨w.heap.size, 1, none⟩ (.slice (some ⟨W2.heap.size, 0, none⟩) 2 2)).alloc (.cells #[.int .i64 x, .int .i64 y] 2)).cell? ⟨w.heap.size, 0, none⟩ = some (.int .i64 0) := LR9.cell 0
  have x1 : (((W2.setCell ⟨w.heap.size, 0, none⟩ (.int .i64 0)).setCell ⟨w.heap.size, 1, none⟩ (.slice (some ⟨W2.heap.size, 0, none⟩) 2 2)).alloc (.cells #[.int .i64 x, .int .i64 y] 2)).cell? ⟨w.heap.size, 1, none⟩ = some (.slice (some ⟨W2.heap.size, 0, none⟩) 2 2) := LR9.cell 1
  have OO := Lib.hid (two_own L_l)
  have BB := Lib.hid (((B.out.setCell (p := ⟨w.heap.size, 0, none⟩) (Nat.le_refl _) (.int .i64 0)).setCell (p := ⟨w.heap.size, 1, none⟩) (Nat.le_refl _) (.slice (some ⟨W2.heap.size, 0, none⟩) 2 2)).alloc (by simp only [size_of_setCell]; omega) (.cells #[.int .i64 x, .int .i64 y] 2))
  clear L_l LR9
  go_wp2
  refine bodyPost_ret (v := .agg #[.int .i64 0, .slice (some ⟨W2.heap.size, 0, none⟩) 2 2]) (by simp [results, Try.results26, go_sem, x0, x1]) rfl ⟨some ⟨W2.heap.size, 0, none⟩, 2, 2, rfl, Or.inr ⟨W2.heap.size, rfl, by omega, OO.out, Nat.le_refl _⟩, BB.out⟩

set_option maxRecDepth 100000 in
set_option maxHeartbeats 3200000 in
theorem implSeedsOf_is (cd d : Int) (L : List Int) (n c : Nat) (A : Option Addr) (ps : List EV) (vs : List EVal) (w : World) (hp : Entries w A n ps) (hn : n ≤ maxLen) (hv : ps.map EV.val = vs) (hc : enoughF vs d = cd) (hL : seedsL vs d = L) :
    Calls Try.prog 27 #[.slice A n c, .int .i64 d] w (SeedsPost cd L w) := by
  have HP := Lib.hid hp
  have HN : Hid ((ps.map EV.val).length = n) := by show List.length _ = n; rw [List.length_map]; exact hp.1
  subst hv
  clear hp
  have B := Lib.hid (below_alloc w (.cells #[.int .i64 0, .slice none 0 0] 42))
  have L_r := Lib.hid (Lies.new w 42 #[.int .i64 0, .slice none 0 0])
  go_enter Try.func27, Try.ntmps27
  go_wp2_with fail
  refine (openToSplit_any _ _ _ _ ps _ (HP.out.kept B.out) hn).mono ?_
  rintro e W1 ⟨b1, h⟩
  replace L_r := Lib.hid (L_r.out.kept b1 L_r.out.inside)
  replace B := Lib.hid (B.out.trans (b1.mono B.out.size))
  clear b1
  rcases h with ⟨hz, rfl⟩ | ⟨hz, A', c', ss, rfl, hS, hO, hF⟩
  · have hz1 : (enoughF (ps.map EV.val) d != 0) = true := by simpa using hz
    rw [seedsL_no hz] at hL
    subst hL
    subst hc
    clear hz
    replace L_r := Lib.hid (L_r.out.alloc (.cells #[.int .i64 0, .slice none 0 0] 113))
    replace B := Lib.hid (B.out.alloc B.out.size (.cells #[.int .i64 0, .slice none 0 0] 113))
    have z0 : (W1.alloc (.cells #[.int .i64 0, .slice none 0 0] 113)).cell? ⟨w.heap.size, 0, none⟩ = some (.int .i64 0) := L_r.out.cell 0
    have z1 : (W1.alloc (.cells #[.int .i64 0, .slice none 0 0] 113)).cell? ⟨w.heap.size, 1, none⟩ = some (.slice none 0 0) := L_r.out.cell 1
    have y0 : (W1.alloc (.cells #[.int .i64 0, .slice none 0 0] 113)).frozen? ⟨w.heap.size, 0, none⟩ = false := L_r.out.thawed 0
    have y1 : (W1.alloc (.cells #[.int .i64 0, .slice none 0 0] 113)).frozen? ⟨w.heap.size, 1, none⟩ = false := L_r.out.thawed 1
    go_wp2
    refine bodyPost_ret (v := .agg #[.int .i64 (enoughF (ps.map EV.val) d), .slice none 0 0]) (by simp [results, Try.results27, go_sem, z0, z1]) rfl ⟨none, 0, 0, rfl, Rowed.none _ _, ?_⟩
    exact (B.out.setCell (Nat.le_refl _) _).setCell (Nat.le_refl _) _
  have hz1 : (enoughF (ps.map EV.val) d != 0) = false := by simp [hz]
  rw [seedsL_yes hz, HN.out] at hL
  rw [hz] at hc
  subst hc
  obtain ⟨he, h4⟩ := enoughF_zero hz
  rw [HN.out] at h4
  obtain ⟨hd, hn8, hent, _⟩ := entsF_zero he
  rw [HN.out] at hn8
  have HR := Lib.hid (right_all hd.1 hent)
  have HD : Hid (d = (d.toNat : Nat)) := by show d = _; omega
  have HO := Lib.hid hO
  have HS := Lib.hid (hS.kept (below_alloc W1 (.cells #[.int .i64 d, .slice A' n c'] 113)))
  have L_b := Lib.hid (Lies.new W1 113 #[.int .i64 d, .slice A' n c'])
  replace L_r := Lib.hid (L_r.out.alloc (.cells #[.int .i64 d, .slice A' n c'] 113))
  replace B := Lib.hid (B.out.alloc B.out.size (.cells #[.int .i64 d, .slice A' n c'] 113))
  clear hz he hent hS hO hF
  obtain ⟨x, hx⟩ : ∃ x : Int, x = (((seedOut (ps.map EV.val) d.toNat n n).1 : Nat) : Int) := ⟨_, rfl⟩
  obtain ⟨y, hy⟩ : ∃ y : Int, y = (((seedOut (ps.map EV.val) d.toNat n n).2 : Nat) : Int) := ⟨_, rfl⟩
  rw [← hx, ← hy] at hL
  subst hL
  have c0 : (W1.alloc (.cells #[.int .i64 d, .slice A' n c'] 113)).cell? ⟨W1.heap.size, 0, none⟩ = some (.int .i64 d) := L_b.out.cell 0
  have c1 : (W1.alloc (.cells #[.int .i64 d, .slice A' n c'] 113)).cell? ⟨W1.heap.size, 1, none⟩ = some (.slice A' n c') := L_b.out.cell 1
  go_wp2_with fail
  refine (seeds_any d n c' d.toNat A' (ps.map EV.val) ss _ HS.out HO.out hn8 (by omega) HR.out HD.out).mono ?_
  rintro e W2 ⟨rfl, b2⟩
  rw [← hx, ← hy]
  replace L_r := Lib.hid (L_r.out.kept b2 L_r.out.inside)
  replace B := Lib.hid (B.out.trans (b2.mono B.out.size))
  clear b2 hx hy c0 c1
  have hs := L_r.out.inside
  have v0 : W2.cell? ⟨w.heap.size, 0, none⟩ = some (.int .i64 0) := L_r.out.cell 0
  have v1 : W2.cell? ⟨w.heap.size, 1, none⟩ = some (.slice none 0 0) := L_r.out.cell 1
  have u0 : W2.frozen? ⟨w.heap.size, 0, none⟩ = false := L_r.out.thawed 0
  have u1 : W2.frozen? ⟨w.heap.size, 1, none⟩ = false := L_r.out.thawed 1
  have hne1 : ¬ w.heap.size = W2.heap.size := by omega
  have hne2 : ¬ W2.heap.size = w.heap.size := by omega
  have L_l : Lies (((W2.setCell ⟨w.heap.size, 0, none⟩ (.int .i64 0)).setCell ⟨w.heap.size, 1, none⟩ (.slice (some ⟨W2.heap.size, 0, none⟩) 2 2)).alloc (.cells #[.int .i64 x, .int .i64 y] 2)) W2.heap.size 2 #[.int .i64 x, .int .i64 y] := Lies.laid (by simp only [size_of_setCell])
  have LR9 := ((L_r.out.set 0 (.int .i64 0)).set 1 (.slice (some ⟨W2.heap.size, 0, none⟩) 2 2)).alloc (.cells #[.int .i64 x, .int .i64 y] 2)
  have x0 : (((W2.setCell ⟨w.heap.size, 0, none⟩ (.int .i64 0)).setCell ⟨w.heap.size, 1, none⟩ (.slice (some ⟨W2.heap.size, 0, none⟩) 2 2)).alloc (.cells #[.int .i64 x, .int .i64 y] 2)).cell? ⟨w.heap.size, 0, none⟩ = some (.int .i64 0) := LR9.cell 0
  have x1 : (((W2.setCell ⟨w.heap.size, 0, none⟩ (.int .i64 0)).setCell ⟨w.heap.size, 1, none⟩ (.slice (some ⟨W2.heap.size, 0, none⟩) 2 2)).alloc (.cells #[.int .i64 x, .int .i64 y] 2)).cell? ⟨w.heap.size, 1, none⟩ = some (.slice (some ⟨W2.heap.size, 0, none⟩) 2 2) := LR9.cell 1
  have OO := Lib.hid (two_own L_l)
  have BB := Lib.hid (((B.out.setCell (p := ⟨w.heap.size, 0, none⟩) (Nat.le_refl _) (.int .i64 0)).setCell (p := ⟨w.heap.size, 1, none⟩) (Nat.le_refl _) (.slice (some ⟨W2.heap.size, 0, none⟩) 2 2)).alloc (by simp only [size_of_setCell]; omega) (.cells #[.int .i64 x, .int .i64 y] 2))
  clear L_l LR9
  go_wp2
  refine bodyPost_ret (v := .agg #[.int .i64 0, .slice (some ⟨W2.heap.size, 0, none⟩) 2 2]) (by simp [results, Try.results27, go_sem, x0, x1]) rfl ⟨some ⟨W2.heap.size, 0, none⟩, 2, 2, rfl, Or.inr ⟨W2.heap.size, rfl, by omega, OO.out, Nat.le_refl _⟩, BB.out⟩

end Go.Proofs.Ytbnlgmcjklfcoaa
