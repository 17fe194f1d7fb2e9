/- An answer that is a pair: eqPairResult, markPairResult, heldPairResult. -/
import Derived.Test.YtpgoildfjkokiabSpecFind
import Derived.Test.YtpgoildfjkokiabImplFind
import Derived.Test.YtpgoildfjkokiabMarkPairs
import Derived.Test.YtpgoildfjkokiabMarks2
namespace Go.Proofs.Ytpgoildfjkokiab
open Go.RowKit

set_option maxHeartbeats 800000 in
theorem eqPairResult_same (cd id : Int) (n1 n2 c1 c2 c3 c4 : Nat) (A1 A2 A3 A4 : Option Addr) (x1 x2 : List Int) (w : World) (h1 : Ints w 0 A1 n1 x1) (h2 : Ints w 0 A2 n2 x2) (h3 : Ints w 0 A3 n1 x1) (h4 : Ints w 0 A4 n2 x2) (m1 : n1 ≤ maxLen) (m2 : n2 ≤ maxLen) :
    Calls Try.prog 8 #[.agg #[.int .i64 cd, .int .i64 id, .slice A1 n1 c1, .slice A2 n2 c2], .agg #[.int .i64 cd, .int .i64 id, .slice A3 n1 c3, .slice A4 n2 c4]] w fun e w' => e = .returned (.bool true) ∧ Below w.heap.size w w' := by
  have e1 : (cd != cd) = false := by simp
  have H1 := Lib.hid h1
  have H2 := Lib.hid h2
  have H3 := Lib.hid h3
  have H4 := Lib.hid h4
  clear h1 h2 h3 h4
  have B := Lib.hid (below_alloc w (.cells #[.int .i64 cd, .int .i64 id, .slice A1 n1 c1, .slice A2 n2 c2] 30))
  replace B := Lib.hid (B.out.alloc B.out.size (.cells #[.int .i64 cd, .int .i64 id, .slice A3 n1 c3, .slice A4 n2 c4] 30))
  go_enter Try.func8, Try.ntmps8
  go_wp2_with fail
  refine (eqPair_same _ _ _ _ _ _ _ _ _ _ _ _ _ _ _ x1 x2 _ (H1.out.kept B.out) (H2.out.kept B.out) (H3.out.kept B.out) (H4.out.kept B.out) m1 m2).mono ?_
  rintro e W1 ⟨rfl, b1⟩
  replace B := Lib.hid (B.out.trans (b1.mono B.out.size))
  clear b1
  go_wp2
  go_ret
  exact ⟨rfl, B.out⟩

/-- Two rows of an answer: none at all, or both the answer's own. -/
def PairAns (w : World) (lo : Nat) (A : Option Addr) (n : Nat) (B : Option Addr) (m : Nat) (X Y : List Int) : Prop :=
  (A = none ∧ B = none ∧ n = 0 ∧ m = 0 ∧ X = [] ∧ Y = []) ∨ ∃ g g', A = some ⟨g, 0, none⟩ ∧ B = some ⟨g', 0, none⟩ ∧ n ≤ 3 ∧ m ≤ 3 ∧ Own w g n X ∧ Own w g' m Y ∧ lo ≤ g ∧ g < g'
section
variable {w w' : World} {lo n m : Nat} {A B : Option Addr} {X Y : List Int}
theorem PairAns.kept (h : PairAns w lo A n B m X Y) (hb : Below w.heap.size w w') : PairAns w' lo A n B m X Y := by
  rcases h with h | ⟨g, g', h1, h2, h3, h4, o1, o2, h5, h6⟩
  · exact Or.inl h
  · exact Or.inr ⟨g, g', h1, h2, h3, h4, o1.kept hb, o2.kept hb, h5, h6⟩
theorem PairAns.turned {G : Nat → Prop} (h : PairAns w lo A n B m X Y) (ht : Turned G w w') (hG : ∀ x, G x → x < lo) : PairAns w' lo A n B m X Y := by
  rcases h with h | ⟨g, g', h1, h2, h3, h4, o1, o2, h5, h6⟩
  · exact Or.inl h
  · exact Or.inr ⟨g, g', h1, h2, h3, h4, ht.own o1 (fun e => by have := hG _ e; omega), ht.own o2 (fun e => by have := hG _ e; omega), h5, h6⟩
theorem PairAns.ints (h : PairAns w lo A n B m X Y) : Ints w 0 A n X ∧ Ints w 0 B m Y := by
  rcases h with ⟨rfl, rfl, rfl, rfl, rfl, rfl⟩ | ⟨g, g', rfl, rfl, _, _, o1, o2, _⟩
  · exact ⟨Ints.empty _ _ _, Ints.empty _ _ _⟩
  · exact ⟨o1.ints (Nat.zero_le _), o2.ints (Nat.zero_le _)⟩
theorem PairAns.bound (h : PairAns w lo A n B m X Y) : ∀ g, B = some ⟨g, 0, none⟩ → g < w.heap.size := by
  rcases h with ⟨_, rfl, _⟩ | ⟨g, g', _, rfl, _, _, _, o2, _⟩
  · intro g e; cases e
  · intro x e; injection e with e; injection e with e; subst e; exact o2.2.lt
theorem PairAns.few (h : PairAns w lo A n B m X Y) : n ≤ 3 ∧ m ≤ 3 := by
  rcases h with ⟨_, _, rfl, rfl, _⟩ | ⟨g, g', _, _, h3, h4, _⟩
  · exact ⟨by decide, by decide⟩
  · exact ⟨h3, h4⟩
end

set_option maxHeartbeats 800000 in
theorem markPairResult_own (k cd id : Int) (n m c c' g g' : Nat) (xs ys : List Int) (w : World) (hx : Own w g n xs) (hy : Own w g' m ys) (hne : g ≠ g') (h0 : 0 ≤ k) (h1 : k ≤ 1073741824) (hn : n ≤ 1048576) (hm : m ≤ 1048576) :
    Calls Try.prog 11 #[.agg #[.int .i64 cd, .int .i64 id, .slice (some ⟨g, 0, none⟩) n c, .slice (some ⟨g', 0, none⟩) m c'], .int .i64 k] w fun e w' => e = .returned (.int .i64 (k + n + m)) ∧ Own w' g n (marks k n) ∧ Own w' g' m (marks (k + n) m) ∧ Turned (fun x => x = g ∨ x = g') w w' := by
  have BA := Lib.hid (below_alloc w (.cells #[.int .i64 cd, .int .i64 id, .slice (some ⟨g, 0, none⟩) n c, .slice (some ⟨g', 0, none⟩) m c'] 30))
  have O_x := Lib.hid (hx.kept BA.out)
  have O_y := Lib.hid (hy.kept BA.out)
  have T : Hid (Turned (fun x => x = g ∨ x = g') w (w.alloc (.cells #[.int .i64 cd, .int .i64 id, .slice (some ⟨g, 0, none⟩) n c, .slice (some ⟨g', 0, none⟩) m c'] 30))) := Turned.of_below BA.out
  clear hx hy BA
  go_enter Try.func11, Try.ntmps11
  go_wp2_with fail
  have key : ∀ W : World, Own W g n xs → Own W g' m ys → Calls Try.prog 23 #[.agg #[.int .i64 id, .slice (some ⟨g, 0, none⟩) n c, .slice (some ⟨g', 0, none⟩) m c'], .int .i64 k] W fun e w' => e = .returned (.int .i64 (k + n + m)) ∧ Own w' g n (marks k n) ∧ Own w' g' m (marks (k + n) m) ∧ Turned (fun x => x = g ∨ x = g') W w' := by
    intro W hx hy
    have BA := Lib.hid (below_alloc W (.cells #[.int .i64 id, .slice (some ⟨g, 0, none⟩) n c, .slice (some ⟨g', 0, none⟩) m c'] 28))
    have P_x := Lib.hid (hx.kept BA.out)
    have P_y := Lib.hid (hy.kept BA.out)
    have TT : Hid (Turned (fun x => x = g ∨ x = g') W (W.alloc (.cells #[.int .i64 id, .slice (some ⟨g, 0, none⟩) n c, .slice (some ⟨g', 0, none⟩) m c'] 28))) := Turned.of_below BA.out
    clear hx hy BA
    go_enter Try.func23, Try.ntmps23
    go_wp2_with fail
    refine (markRect_any _ _ _ _ _ _ _ xs ys _ P_x.out P_y.out hne h0 h1 hn hm).mono ?_
    rintro e W1 ⟨rfl, o1, o2, t1⟩
    replace TT := Lib.hid (TT.out.trans t1)
    replace P_x := Lib.hid o1
    replace P_y := Lib.hid o2
    clear t1 o1 o2
    go_wp2
    go_ret
    exact ⟨rfl, P_x.out, P_y.out, TT.out⟩
  refine (key _ O_x.out O_y.out).mono ?_
  rintro e W1 ⟨rfl, o1, o2, t1⟩
  replace T := Lib.hid (T.out.trans t1)
  replace O_x := Lib.hid o1
  replace O_y := Lib.hid o2
  clear t1 o1 o2 key
  go_wp2
  go_ret
  exact ⟨rfl, O_x.out, O_y.out, T.out⟩

set_option maxHeartbeats 800000 in
theorem markPairResult_none (k cd id : Int) (w : World) :
    Calls Try.prog 11 #[.agg #[.int .i64 cd, .int .i64 id, .slice none 0 0, .slice none 0 0], .int .i64 k] w fun e w' => e = .returned (.int .i64 k) ∧ Below w.heap.size w w' := by
  have B := Lib.hid (below_alloc w (.cells #[.int .i64 cd, .int .i64 id, .slice none 0 0, .slice none 0 0] 30))
  go_enter Try.func11, Try.ntmps11
  go_wp2_with fail
  have key : ∀ W : World, Calls Try.prog 23 #[.agg #[.int .i64 id, .slice none 0 0, .slice none 0 0], .int .i64 k] W fun e w' => e = .returned (.int .i64 k) ∧ Below W.heap.size W w' := by
    intro W
    have BB := Lib.hid (below_alloc W (.cells #[.int .i64 id, .slice none 0 0, .slice none 0 0] 28))
    go_enter Try.func23, Try.ntmps23
    go_wp2_with fail
    refine (markRect_none _ _).mono ?_
    rintro e W1 ⟨rfl, b1⟩
    replace BB := Lib.hid (BB.out.trans (b1.mono BB.out.size))
    clear b1
    go_wp2
    go_ret
    exact ⟨rfl, BB.out⟩
  refine (key _).mono ?_
  rintro e W1 ⟨rfl, b1⟩
  replace B := Lib.hid (B.out.trans (b1.mono B.out.size))
  clear b1 key
  go_wp2
  go_ret
  exact ⟨rfl, B.out⟩

/-- The marks on an answer: its own blocks alone turn. -/
theorem markPairResult_ans (cd id : Int) (lo hi n m c c' : Nat) (A B : Option Addr) (X Y : List Int) (w : World) (h : PairAns w lo A n B m X Y) (hc : A = none → c = 0 ∧ c' = 0) (hhi : ∀ g, B = some ⟨g, 0, none⟩ → g < hi) :
    Calls Try.prog 11 #[.agg #[.int .i64 cd, .int .i64 id, .slice A n c, .slice B m c'], .int .i64 1] w fun e w' => (e = .returned (.int .i64 (1 + n + m)) ∧ PairAns w' lo A n B m (marks 1 n) (marks (1 + n) m)) ∧ Turned (fun x => lo ≤ x ∧ x < hi) w w' := by
  rcases h with ⟨rfl, rfl, rfl, rfl, rfl, rfl⟩ | ⟨g, g', rfl, rfl, h3, h4, o1, o2, h5, h6⟩
  · obtain ⟨rfl, rfl⟩ := hc rfl
    refine (markPairResult_none 1 cd id w).mono ?_
    rintro e w' ⟨rfl, b⟩
    exact ⟨⟨rfl, Or.inl ⟨rfl, rfl, rfl, rfl, rfl, rfl⟩⟩, Turned.of_below b⟩
  · have hl2 := hhi g' rfl
    refine (markPairResult_own 1 cd id n m c c' g g' X Y w o1 o2 (by omega) (by decide) (by decide) (by omega) (by omega)).mono ?_
    rintro e w' ⟨rfl, p1, p2, t⟩
    exact ⟨⟨rfl, Or.inr ⟨g, g', rfl, rfl, h3, h4, p1, p2, h5, h6⟩⟩, t.wider (fun x hx => by rcases hx with rfl | rfl <;> exact ⟨by omega, by omega⟩)⟩

set_option maxHeartbeats 800000 in
theorem heldPairResult_any (k cd id : Int) (n m c c' : Nat) (A A' : Option Addr) (w : World) (hx : Ints w 0 A n (marks k n)) (hy : Ints w 0 A' m (marks (k + n) m)) (h0 : 0 ≤ k) (h1 : k ≤ 1073741824) (hn : n ≤ 1048576) (hm : m ≤ 1048576) :
    Calls Try.prog 12 #[.agg #[.int .i64 cd, .int .i64 id, .slice A n c, .slice A' m c'], .int .i64 k] w fun e w' => e = .returned (.int .i64 (k + n + m)) ∧ Below w.heap.size w w' := by
  have B := Lib.hid (below_alloc w (.cells #[.int .i64 cd, .int .i64 id, .slice A n c, .slice A' m c'] 30))
  have I_x := Lib.hid hx
  have I_y := Lib.hid hy
  clear hx hy
  have k2 : ¬ (k + n + m < 0) := by omega
  go_enter Try.func12, Try.ntmps12
  go_wp2_with fail
  have key : ∀ W : World, Below w.heap.size w W → Calls Try.prog 24 #[.agg #[.int .i64 id, .slice A n c, .slice A' m c'], .int .i64 k] W fun e w' => e = .returned (.int .i64 (k + n + m)) ∧ Below W.heap.size W w' := by
    intro W hW
    have HWW := Lib.hid hW
    clear hW
    have BB := Lib.hid (below_alloc W (.cells #[.int .i64 id, .slice A n c, .slice A' m c'] 28))
    have B3 := Lib.hid (HWW.out.alloc HWW.out.size (.cells #[.int .i64 id, .slice A n c, .slice A' m c'] 28))
    go_enter Try.func24, Try.ntmps24
    go_wp2_with fail
    refine (heldRect_any _ _ _ _ _ _ _ _ _ _ (I_x.out.kept B3.out) (I_y.out.kept B3.out) h0 h1 hn hm).mono ?_
    rintro e W1 ⟨rfl, b1⟩
    replace BB := Lib.hid (BB.out.trans (b1.mono BB.out.size))
    clear b1
    go_wp2
    go_ret
    exact ⟨rfl, BB.out⟩
  refine (key _ B.out).mono ?_
  rintro e W1 ⟨rfl, b1⟩
  replace B := Lib.hid (B.out.trans (b1.mono B.out.size))
  clear b1 key
  go_wp2
  go_ret
  exact ⟨rfl, B.out⟩

/-- What a copy of a list of pairs holds is as small as the list. -/
theorem small_pairs {w w' : World} {A : Option Addr} {n g : Nat} {ps qs : List PV} (hp : Pairs w A n ps) (hs : ∀ (k : Nat) (p : PV), ps[k]? = some p → (p.n1 : Int) + p.n2 ≤ 1048576) (ho : PairsOwn w' g n qs) (hv : qs.map PV.val = ps.map PV.val) : ∀ q ∈ qs, q.n1 + q.n2 ≤ 1048576 := by
  intro q hq
  obtain ⟨k, hk⟩ := List.getElem?_of_mem hq
  have h1 : (ps.map PV.val)[k]? = some q.val := by rw [← hv, List.getElem?_map, hk]; rfl
  obtain ⟨p, hpk, hpv⟩ := val_of h1
  have h2 := hs k p hpk
  obtain ⟨i1, i2, _⟩ := hp.2.2 p (List.mem_of_getElem? hpk)
  obtain ⟨_, _, _, _, g1, g2, _, _, _, _, o1, o2⟩ := ho.2.2 q hq
  simp only [PV.val, Prod.mk.injEq] at hpv
  have a1 := i1.1
  have a2 := i2.1
  have b1 := o1.1
  have b2 := o2.1
  rw [hpv.2.1] at a1
  rw [hpv.2.2] at a2
  omega

end Go.Proofs.Ytpgoildfjkokiab
