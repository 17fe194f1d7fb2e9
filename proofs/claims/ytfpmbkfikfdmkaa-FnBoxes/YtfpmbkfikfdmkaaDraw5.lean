/- The draws: a box that may be bent. -/
import Derived.Test.YtfpmbkfikfdmkaaDraw4
import Derived.Deep.RegionHeld3
namespace Go.Proofs.Ytfpmbkfikfdmkaa
open Go.RowKit

/-- A box that was drawn reads as two lists, which lie behind the source. -/
structure BoxD (w w' : World) (lo g : Nat) (M : Int) (A A' : Option Addr) (n n' : Nat) (xs ys : List Int) : Prop where
  D : Drew1 w w' lo g M
  X : Ints w' (g + 1) A n xs
  Y : Ints w' (g + 1) A' n' ys
  n1 : 1 ≤ n ∧ n ≤ 4
  n2 : 1 ≤ n' ∧ n' ≤ 4
theorem ints_owned {w : World} {base n c : Nat} {A : Option Addr} {xs : List Int} (h : w.ownsRow base 2 1 (.slice A n c) n (xs.map (Value.int .i64))) : Ints w base A n xs := by
  obtain ⟨A2, c2, e, hi⟩ := ints_of_owns h
  injection e with e1 e2 e3
  subst e1
  exact hi
/-- The block of a row of one's own that is not empty, known whole. -/
theorem owned_lies {w : World} {base n c : Nat} {A : Option Addr} {xs : List Int} (h : w.ownsRow base 2 1 (.slice A n c) n (xs.map (Value.int .i64))) (h0 : 0 < n) :
    ∃ q cur, A = some ⟨q, 0, none⟩ ∧ base ≤ q ∧ Lies w q 2 cur ∧ (n ≤ cur.size ∧ n ≤ c) ∧ ∀ (k : Nat) (x : Int), xs[k]? = some x → cur[k]? = some (.int .i64 x) := by
  obtain ⟨hl, h1⟩ := h
  rcases h1 with ⟨_, h2⟩ | ⟨g, cap, cur, e1, h2, h3, h4, h5, h6, h7⟩
  · omega
  · injection e1 with e1 e2 e3
    refine ⟨g, cur, e1, h2, h3, ⟨by omega, by omega⟩, fun k x hk => ?_⟩
    have hk' : k < n := by have := (List.getElem?_eq_some_iff.1 hk).1; simp only [List.length_map] at hl; omega
    have h8 : (cur.toList.take (n * 1))[k]? = some (.int .i64 x) := by rw [h7, List.getElem?_map, hk]; rfl
    rw [List.getElem?_take, if_pos (by omega)] at h8
    simpa using h8
theorem Ints.set1 {w : World} {l n q j : Nat} {xs : List Int} {x : Int} (h : Ints w l (some ⟨q, 0, none⟩) n xs) (hj : j < n) : Ints (w.setCell ⟨q, j, none⟩ (.int .i64 x)) l (some ⟨q, 0, none⟩) n (xs.set j x) := by
  obtain ⟨hl, hr⟩ := h
  refine ⟨by rw [List.length_set]; exact hl, fun hn => ?_⟩
  obtain ⟨b, o, e, h1, h2, h3⟩ := hr hn
  injection e with e; injection e with e1 e2; subst e1 e2
  refine ⟨q, 0, rfl, h1, by rw [size_of_setCell]; exact h2, fun k y hk => ?_⟩
  rw [List.getElem?_set] at hk
  by_cases hjk : j = k
  · subst hjk
    rw [if_pos rfl, if_pos (by omega)] at hk
    injection hk with hk; subst hk
    have hx : xs[j]? = some (xs[j]'(by omega)) := List.getElem?_eq_getElem _
    have := h3 j _ hx
    rw [Nat.zero_add] at this ⊢
    exact World.cell?_setCell_same _ _ _ this
  · rw [if_neg hjk] at hk
    rw [World.cell?_setCell_other _ _ _ _ (fun e' => hjk (by injection e' with _ e'; omega))]
    exact h3 k y hk
theorem Ints.set2 {w : World} {l n : Nat} {A : Option Addr} {xs : List Int} {a : Addr} {v : Value} (h : Ints w l A n xs) (hA : ∀ b o, A = some ⟨b, o, none⟩ → b ≠ a.block) : Ints (w.setCell a v) l A n xs := by
  obtain ⟨hl, hr⟩ := h
  refine ⟨hl, fun hn => ?_⟩
  obtain ⟨b, o, e, h1, h2, h3⟩ := hr hn
  refine ⟨b, o, e, h1, by rw [size_of_setCell]; exact h2, fun k y hk => ?_⟩
  rw [World.cell?_of_block (w := w) (a := ⟨b, o + k, none⟩) (heap_setCell_other w a b v (hA b o e))]
  exact h3 k y hk
theorem Ints.tail {w : World} {l n b o : Nat} {xs : List Int} (h : Ints w l (some ⟨b, o, none⟩) (n + 1) xs) : Ints w l (some ⟨b, o + 1, none⟩) n xs.tail := by
  obtain ⟨hl, hr⟩ := h
  refine ⟨by rw [List.length_tail]; omega, fun hn => ?_⟩
  obtain ⟨b', o', e, h1, h2, h3⟩ := hr (by omega)
  injection e with e; injection e with e1 e2; subst e1 e2
  refine ⟨b, o + 1, rfl, h1, h2, fun k y hk => ?_⟩
  have := h3 (k + 1) y (by rwa [List.getElem?_tail] at hk)
  rwa [show o + 1 + k = o + (k + 1) by omega]
theorem Drew1.size_eq {w : World} {a : Addr} {v : Value} : (w.setCell a v).heap.size = w.heap.size := size_of_setCell _ _ _

theorem Ints.put {w : World} {l n : Nat} {A : Option Addr} {xs : List Int} {a : Addr} {v : Value} (h : Ints w l A n xs) (ha : a.block < l) : Ints (w.setCell a v) l A n xs := by
  obtain ⟨hl, hr⟩ := h
  refine ⟨hl, fun hn => ?_⟩
  obtain ⟨b, o, e, h1, h2, h3⟩ := hr hn
  exact ⟨b, o, e, h1, by rw [size_of_setCell]; exact h2, fun k y hk => by rw [World.cell?_of_block (w := w) (a := ⟨b, o + k, none⟩) (heap_setCell_other w a b v (by omega))]; exact h3 k y hk⟩
/-- Where l1Bent stands behind its turn. -/
structure BentW (w wr : World) (lo g ob : Nat) (M : Int) (A A' : Option Addr) (n c n' c' : Nat) (xs ys : List Int) : Prop where
  D : Drew1 w wr lo g M
  R : Lies wr w.heap.size 26 #[.slice none 0 0, .slice none 0 0]
  O : Lies wr ob 26 #[.slice A n c, .slice A' n' c']
  X : Ints wr (w.heap.size + 1) A n xs
  Y : Ints wr (w.heap.size + 1) A' n' ys
  n1 : 1 ≤ n ∧ n ≤ 4
  n2 : 1 ≤ n' ∧ n' ≤ 4
theorem BentW.done {w wr : World} {lo g ob : Nat} {M : Int} {A A' : Option Addr} {n c n' c' : Nat} {xs ys : List Int} {v v' : Value} (h : BentW w wr lo g ob M A A' n c n' c' xs ys) (hg : g < w.heap.size) : BoxD w ((wr.setCell ⟨w.heap.size, 0, none⟩ v).setCell ⟨w.heap.size, 1, none⟩ v') lo g M A A' n n' xs ys :=
  ⟨(h.D.put (Nat.le_refl _) hg _).put (Nat.le_refl _) hg _, ((h.X.put (Nat.lt_succ_self _)).put (Nat.lt_succ_self _)).lower (by omega), ((h.Y.put (Nat.lt_succ_self _)).put (Nat.lt_succ_self _)).lower (by omega), h.n1, h.n2⟩

set_option maxRecDepth 100000 in
set_option maxHeartbeats 12800000 in
theorem l1Bent_any (lo g n : Nat) (M : Int) (w : World) (hs : Src w lo g M) (hM : M ≤ 900000) (hn : 2 ≤ n ∧ n ≤ 3) :
    Calls Try.prog 62 #[.pointer (some ⟨g, 0, none⟩), .int .i64 n] w fun e w' => ∃ (A A' : Option Addr) (n1 c1 n2 c2 : Nat) (xs ys : List Int), e = .returned (.agg #[.slice A n1 c1, .slice A' n2 c2]) ∧ BoxD w w' lo g (M + 6 * n + 4) A A' n1 n2 xs ys := by
  have hg := hs.inside.2
  have B0 := below_alloc w (.cells #[.slice none 0 0, .slice none 0 0] 26)
  have D0 := Lib.hid ((Drew1.start hs).below B0)
  have L0 := Lib.hid (Lies.new w 26 #[.slice none 0 0, .slice none 0 0])
  clear hs B0
  go_enter Try.func62, Try.ntmps62
  go_wp2_with fail
  refine (l1Rect_any lo g n _ _ D0.out.s hM (by omega)).mono ?_
  rintro e W1 ⟨A, A', c, c', xs, ys, rfl, hX, hY, hne, d1⟩
  simp only [World.size_alloc] at hX hY
  have L1 := Lib.hid (d1.lies L0.out (by omega))
  have D1 := Lib.hid (D0.out.trans d1)
  have hw1 : w.heap.size + 1 ≤ W1.heap.size := by have := d1.size; simpa only [World.size_alloc] using this
  obtain ⟨q, cur, rfl, hq0, hq1, hq2, hq3⟩ := owned_lies hX (by omega)
  obtain ⟨p, cur', rfl, hp0, hp1, hp2, hp3⟩ := owned_lies hY (by omega)
  have hqp : q ≠ p := fun e => hne q rfl (by rw [e]; rfl)
  have hlx : xs.length = n := by have := hX.1; simpa using this
  have hly : ys.length = n := by have := hY.1; simpa using this
  obtain ⟨y0, hy0⟩ : ∃ y, ys[0]? = some y := ⟨_, List.getElem?_eq_getElem (by omega)⟩
  have IX := Lib.hid ((ints_owned hX).lower (show w.heap.size + 1 ≤ _ by omega))
  have IY := Lib.hid ((ints_owned hY).lower (show w.heap.size + 1 ≤ _ by omega))
  have iq : q < W1.heap.size := hq1.inside
  have ip : p < W1.heap.size := hp1.inside
  have LQ := Lib.hid hq1
  have LP := Lib.hid hp1
  have CY := Lib.hid (hp3 0 y0 hy0)
  have OX := Lib.hid hX
  have OY := Lib.hid hY
  clear hX hY hne d1 D0 L0 hq1 hp1 hq3 hp3 hy0
  have D2 := Lib.hid (D1.out.below (below_alloc W1 (.cells #[.slice (some ⟨q, 0, none⟩) n c, .slice (some ⟨p, 0, none⟩) n c'] 26)))
  have LO := Lib.hid (Lies.new W1 26 #[.slice (some ⟨q, 0, none⟩) n c, .slice (some ⟨p, 0, none⟩) n c'])
  replace L1 := Lib.hid (L1.out.alloc (.cells #[.slice (some ⟨q, 0, none⟩) n c, .slice (some ⟨p, 0, none⟩) n c'] 26))
  replace IX := Lib.hid (IX.out.kept (below_alloc W1 (.cells #[.slice (some ⟨q, 0, none⟩) n c, .slice (some ⟨p, 0, none⟩) n c'] 26)))
  replace IY := Lib.hid (IY.out.kept (below_alloc W1 (.cells #[.slice (some ⟨q, 0, none⟩) n c, .slice (some ⟨p, 0, none⟩) n c'] 26)))
  replace OX := Lib.hid (OX.out.alloc (.cells #[.slice (some ⟨q, 0, none⟩) n c, .slice (some ⟨p, 0, none⟩) n c'] 26))
  replace OY := Lib.hid (OY.out.alloc (.cells #[.slice (some ⟨q, 0, none⟩) n c, .slice (some ⟨p, 0, none⟩) n c'] 26))
  replace LQ := Lib.hid (LQ.out.alloc (.cells #[.slice (some ⟨q, 0, none⟩) n c, .slice (some ⟨p, 0, none⟩) n c'] 26))
  replace LP := Lib.hid (LP.out.alloc (.cells #[.slice (some ⟨q, 0, none⟩) n c, .slice (some ⟨p, 0, none⟩) n c'] 26))
  clear D1
  go_wp2_with fail
  refine (l1Next_any lo g 14 _ _ D2.out.s (by omega) (by decide) (by decide)).mono ?_
  rintro e W2 ⟨v, rfl, ⟨v0, v1⟩, s1, t1⟩
  have d3 : Drew1 (W1.alloc (.cells #[.slice (some ⟨q, 0, none⟩) n c, .slice (some ⟨p, 0, none⟩) n c'] 26)) W2 lo g (M + 6 * n + 1) := ⟨s1, t1⟩
  have hin := LO.out.inside
  have hiq := LQ.out.inside
  have hip := LP.out.inside
  have hgw1 : g < W1.heap.size := by omega
  replace LO := Lib.hid (d3.lies LO.out (by omega))
  replace L1 := Lib.hid (d3.lies L1.out (by omega))
  replace LQ := Lib.hid (d3.lies LQ.out (by omega))
  replace LP := Lib.hid (d3.lies LP.out (by omega))
  replace IX := Lib.hid (d3.ints IX.out (by omega))
  replace IY := Lib.hid (d3.ints IY.out (by omega))
  replace OX := Lib.hid (d3.owns OX.out (by omega))
  replace OY := Lib.hid (d3.owns OY.out (by omega))
  have D3 := Lib.hid (D2.out.trans d3)
  have sW2 : W1.heap.size + 1 ≤ W2.heap.size := by have := d3.size; simpa only [World.size_alloc] using this
  clear s1 t1 d3 D2
  have o0 : W2.cell? ⟨W1.heap.size, 0, none⟩ = some (.slice (some ⟨q, 0, none⟩) n c) := LO.out.cell 0
  have o1 : W2.cell? ⟨W1.heap.size, 1, none⟩ = some (.slice (some ⟨p, 0, none⟩) n c') := LO.out.cell 1
  have u0 : 0 < n := by omega
  have u1 : 1 < n := by omega
  have u2 : ((0 : Int) < (n : Int)) := by omega
  have u3 : ¬ n = 0 := by omega
  have u4 : ((1 : Int) < (n : Int)) := by omega
  have nq : ¬ q = W1.heap.size := by omega
  have np : ¬ p = W1.heap.size := by omega
  have hne' : ¬ W1.heap.size = q := by omega
  have hne2 : ¬ W1.heap.size = p := by omega
  have hne3 : ¬ p = q := by omega
  have cy0 : W2.cell? ⟨p, 0, none⟩ = some (.int .i64 y0) := by exact (LP.out.cell 0).trans CY.out
  have hc0 : 0 < cur.size := by omega
  by_cases hv0 : v = 0
  · subst hv0
    obtain ⟨z, hz⟩ : ∃ z, IntKind.i64.wrap (y0 + 1) = z := ⟨_, rfl⟩
    have B := (Below.refl W2.heap.size W2).drew.alloc (Nat.le_refl _) (.cells #[.int .i64 z, .int .i64 (-1001), .int .i64 1001] 2)
    have LQd := Lib.hid (LQ.out.kept B LQ.out.inside)
    have LPd := Lib.hid (LP.out.kept B LP.out.inside)
    have LOd := Lib.hid (LO.out.kept B LO.out.inside)
    have Dd := Lib.hid (D3.out.below B)
    have hgs : g < W2.heap.size := D3.out.s.inside.2
    have HI := Lib.hid (ints_laid W2.drew [z, -1001, 1001] (by simp))
    have k_0 : (W2.alloc (.cells #[.int .i64 z, .int .i64 (-1001), .int .i64 1001] 2)).drew.cell? ⟨W1.heap.size, 0, none⟩ = some (.slice (some ⟨q, 0, none⟩) n c) ∧ (W2.alloc (.cells #[.int .i64 z, .int .i64 (-1001), .int .i64 1001] 2)).drew.cell? ⟨W1.heap.size, 1, none⟩ = some (.slice (some ⟨p, 0, none⟩) n c') ∧ (W2.alloc (.cells #[.int .i64 z, .int .i64 (-1001), .int .i64 1001] 2)).drew.cell? ⟨p, 0, none⟩ = some (.int .i64 y0) := ⟨LOd.out.cell 0, LOd.out.cell 1, (LPd.out.cell 0).trans CY.out⟩
    go_upto_region 4 with fail
    go_region_held3 (fun w' => w'.cell? ⟨W1.heap.size, 0, none⟩ = some (.slice (some ⟨q, 0, none⟩) n c) ∧ w'.cell? ⟨W1.heap.size, 1, none⟩ = some (.slice (some ⟨p, 0, none⟩) n c') ∧ w'.cell? ⟨p, 0, none⟩ = some (.int .i64 y0))
      (first | (simp [go_sem, o0, o1, cy0]; done) | with_reducible exact k_0 | with_reducible exact k_1 | with_reducible exact k_2 | fail)
      (first
        | (go_at_call 67; refine (l1Pick_any lo g W2.heap.size 3 _ _ [z, -1001, 1001] _ _ Dd.out.s (by omega) HI.out hgs (by decide) (by decide)).mono ?_
           rintro e Wp ⟨x, rfl, hx, dp⟩
           have k_1 : Wp.cell? ⟨W1.heap.size, 0, none⟩ = some (.slice (some ⟨q, 0, none⟩) n c) ∧ Wp.cell? ⟨W1.heap.size, 1, none⟩ = some (.slice (some ⟨p, 0, none⟩) n c') ∧ Wp.cell? ⟨p, 0, none⟩ = some (.int .i64 y0) := ⟨(dp.lies LOd.out (by omega)).cell 0, (dp.lies LOd.out (by omega)).cell 1, ((dp.lies LPd.out (by omega)).cell 0).trans CY.out⟩
           have k_2 : (Wp.setCell ⟨q, 0, none⟩ (.int .i64 x)).cell? ⟨W1.heap.size, 0, none⟩ = some (.slice (some ⟨q, 0, none⟩) n c) ∧ (Wp.setCell ⟨q, 0, none⟩ (.int .i64 x)).cell? ⟨W1.heap.size, 1, none⟩ = some (.slice (some ⟨p, 0, none⟩) n c') ∧ (Wp.setCell ⟨q, 0, none⟩ (.int .i64 x)).cell? ⟨p, 0, none⟩ = some (.int .i64 y0) := ⟨((dp.lies LOd.out (by omega)).far hne' _).cell 0, ((dp.lies LOd.out (by omega)).far hne' _).cell 1, (((dp.lies LPd.out (by omega)).far hne3 _).cell 0).trans CY.out⟩
           have sq : Wp.cell? ⟨q, 0, none⟩ = some (cur[0]'hc0) := ((dp.lies LQd.out (by omega)).cell 0).trans (Array.getElem?_eq_getElem hc0)
           have fq : Wp.frozen? ⟨q, 0, none⟩ = false := (dp.lies LQd.out (by omega)).thawed 0))
    have BW : Hid (BentW w (Wp.setCell ⟨q, 0, none⟩ (.int .i64 x)) lo g W1.heap.size (M + 6 * n + 4) (some ⟨q, 0, none⟩) (some ⟨p, 0, none⟩) n c n c' (xs.set 0 x) ys) :=
      ⟨((Dd.out.trans dp).mono (by omega)).put (by show w.heap.size ≤ q; omega) hg _, (dp.lies (L1.out.kept B L1.out.inside) (by omega)).far (by show w.heap.size ≠ q; omega) _, (dp.lies LOd.out (by omega)).far hne' _, (dp.ints (IX.out.kept B) (by omega)).set1 (by omega), (dp.ints (IY.out.kept B) (by omega)).set2 (fun b o e => by injection e with e; injection e with e1 e2; subst e1; exact hne3), ⟨by omega, by omega⟩, ⟨by omega, by omega⟩⟩
    clear k_0 k_1 k_2 sq fq dp HI Dd LOd LPd LQd hx B o0 o1 cy0 hc0
    generalize hW : Wp.setCell ⟨q, 0, none⟩ (.int .i64 x) = wr at *
    clear hW
    have c0 : wr.cell? ⟨W1.heap.size, 0, none⟩ = some (.slice (some ⟨q, 0, none⟩) n c) := BW.out.O.cell 0
    have c1 : wr.cell? ⟨W1.heap.size, 1, none⟩ = some (.slice (some ⟨p, 0, none⟩) n c') := BW.out.O.cell 1
    have r0 : wr.cell? ⟨w.heap.size, 0, none⟩ = some (.slice none 0 0) := BW.out.R.cell 0
    have r1 : wr.cell? ⟨w.heap.size, 1, none⟩ = some (.slice none 0 0) := BW.out.R.cell 1
    have f0 : wr.frozen? ⟨w.heap.size, 0, none⟩ = false := BW.out.R.thawed 0
    have f1 : wr.frozen? ⟨w.heap.size, 1, none⟩ = false := BW.out.R.thawed 1
    go_wp2
    refine bodyPost_ret (v := .agg #[.slice (some ⟨q, 0, none⟩) n c, .slice (some ⟨p, 0, none⟩) n c']) (by simp [results, Try.results62, go_sem, r0, r1]) rfl ⟨(some ⟨q, 0, none⟩), (some ⟨p, 0, none⟩), n, c, n, c', (xs.set 0 x), ys, rfl, BW.out.done hg⟩
  by_cases hv1 : v = 1
  · subst hv1
    obtain ⟨n0, rfl⟩ : ∃ n0, n = n0 + 1 := ⟨n - 1, by omega⟩
    have u5 : ¬ n0 + 1 < 1 := by omega
    have u6 : ¬ c' = 1 := by omega
    have u7 : ¬ c' - 1 = 0 := by omega
    have g1 : W2.frozen? ⟨W1.heap.size, 1, none⟩ = false := LO.out.thawed 1
    go_upto_region 11 with fail
    have BW : Hid (BentW w (W2.setCell ⟨W1.heap.size, 1, none⟩ (.slice (some ⟨p, 1, none⟩) n0 (c' - 1))) lo g W1.heap.size (M + 6 * (n0 + 1 : Nat) + 4) (some ⟨q, 0, none⟩) (some ⟨p, 1, none⟩) (n0 + 1) c n0 (c' - 1) xs ys.tail) :=
      ⟨(D3.out.mono (by omega)).put (by show w.heap.size ≤ W1.heap.size; omega) hg _, L1.out.far (by show w.heap.size ≠ W1.heap.size; omega) _, LO.out.set 1 _, IX.out.set2 (fun b o e => by injection e with e; injection e with e1 e2; subst e1; exact nq), IY.out.tail.set2 (fun b o e => by injection e with e; injection e with e1 e2; subst e1; exact np), ⟨by omega, by omega⟩, ⟨by omega, by omega⟩⟩
    clear D3 L1 LO IX IY OX OY LQ LP CY o0 o1 cy0 hc0 g1
    generalize hW : W2.setCell ⟨W1.heap.size, 1, none⟩ (.slice (some ⟨p, 1, none⟩) n0 (c' - 1)) = wr at *
    clear hW
    have c0 : wr.cell? ⟨W1.heap.size, 0, none⟩ = some (.slice (some ⟨q, 0, none⟩) (n0 + 1) c) := BW.out.O.cell 0
    have c1 : wr.cell? ⟨W1.heap.size, 1, none⟩ = some (.slice (some ⟨p, 1, none⟩) n0 (c' - 1)) := BW.out.O.cell 1
    have r0 : wr.cell? ⟨w.heap.size, 0, none⟩ = some (.slice none 0 0) := BW.out.R.cell 0
    have r1 : wr.cell? ⟨w.heap.size, 1, none⟩ = some (.slice none 0 0) := BW.out.R.cell 1
    have f0 : wr.frozen? ⟨w.heap.size, 0, none⟩ = false := BW.out.R.thawed 0
    have f1 : wr.frozen? ⟨w.heap.size, 1, none⟩ = false := BW.out.R.thawed 1
    go_wp2
    refine bodyPost_ret (v := .agg #[.slice (some ⟨q, 0, none⟩) (n0 + 1) c, .slice (some ⟨p, 1, none⟩) n0 (c' - 1)]) (by simp [results, Try.results62, go_sem, r0, r1]) rfl ⟨(some ⟨q, 0, none⟩), (some ⟨p, 1, none⟩), (n0 + 1), c, n0, (c' - 1), xs, ys.tail, rfl, BW.out.done hg⟩
  by_cases hv2 : v = 2
  · subst hv2
    obtain ⟨i0, hi0, hz0, hz1, hz2⟩ := info_parts_i64
    have NEWS : Hid (∀ i u, ([.int .i64 0] : List Value)[i]? = some u → (W2.alloc (.cells #[.int .i64 0] 2)).cell? ((⟨W2.heap.size, 0, none⟩ : Addr).add i) = some u) := World.news_of_block (cs := #[.int .i64 0]) (t := 2) (fr := (0, 0)) (Lies.new W2 2 #[.int .i64 0])
    have OX1 := Lib.hid (OX.out.alloc (.cells #[.int .i64 0] 2))
    have OY1 := Lib.hid (OY.out.alloc (.cells #[.int .i64 0] 2))
    have B := below_alloc W2 (.cells #[.int .i64 0] 2)
    have Dd := Lib.hid (D3.out.below B)
    have L1d := Lib.hid (L1.out.kept B L1.out.inside)
    have LOd := Lib.hid (LO.out.kept B LO.out.inside)
    have LPd := Lib.hid (LP.out.kept B LP.out.inside)
    have hiO := LO.out.inside
    clear D3 L1 LO IX IY OX OY LQ LP cy0 hc0
    go_wp2_with (with_reducible refine wpList_append_lies _ rfl (.tmp 33) (.tmp 34) 24 rfl (w.heap.size + 1 + 1 + 1) 2 i0 (.int .i64 0) 1 8 Try.underlying24 hi0 hz0 hz1 hz2 rfl (by omega) (.slice (some ⟨q, 0, none⟩) n c) n (xs.map (Value.int .i64)) rfl OX1.out ⟨W2.heap.size, 0, none⟩ 1 1 [.int .i64 0] rfl rfl NEWS.out ?q2 (by omega) ?q3 ?q4 ?q5 (W2.heap.size + 1) ?q6 ?_)
    case q2 => simp [Value.oneCell']
    case q3 => unfold maxLen; omega
    case q4 => omega
    case q5 => (try simp only [World.size_alloc]); omega
    try (case q6 => simp only [World.size_alloc])
    intro gg cap w1 ho hw hat hlt1
    have hq' : ∀ r, (Value.slice (some ⟨q, 0, none⟩) n c).ownBlock = some r → r = q := fun r e => by simpa [Value.ownBlock] using e.symm
    have nr : ∀ y, y ≠ q → some y ≠ (Value.slice (some ⟨q, 0, none⟩) n c).ownBlock := fun y hy e => hy (hq' y e.symm)
    have hgg : gg ≠ W1.heap.size := by
      rcases hat with hat | hat
      · have := hq' _ hat; omega
      · (try simp only [World.size_alloc] at hat); omega
    have c0w : Lies w1 W1.heap.size 26 #[.slice (some ⟨q, 0, none⟩) n c, .slice (some ⟨p, 0, none⟩) n c'] := (hw.block _ LOd.out.inside (nr _ hne')).trans LOd.out
    have s0 : w1.cell? ⟨W1.heap.size, 0, none⟩ = some (.slice (some ⟨q, 0, none⟩) n c) := c0w.cell 0
    have s1 : w1.frozen? ⟨W1.heap.size, 0, none⟩ = false := c0w.thawed 0
    have OY2 : Hid (w1.ownsRow (w.heap.size + 1 + 1 + 1) 2 1 (.slice (some ⟨p, 0, none⟩) n c') n (ys.map (Value.int .i64))) := OY1.out.kept hw (Or.inr (nr p (fun e => hqp e.symm)))
    have BW : Hid (BentW w (w1.setCell ⟨W1.heap.size, 0, none⟩ (.slice (some ⟨gg, 0, none⟩) (n + 1) cap)) lo g W1.heap.size (M + 6 * n + 4) (some ⟨gg, 0, none⟩) (some ⟨p, 0, none⟩) (n + 1) cap n c' (xs ++ [0]) ys) :=
      ⟨((Dd.out.grown hw (fun r e => by have := hq' r e; omega) hg).mono (by omega)).put (by show w.heap.size ≤ W1.heap.size; omega) hg _, Lies.far ((hw.block _ L1d.out.inside (nr _ (by omega))).trans L1d.out) (by show w.heap.size ≠ W1.heap.size; omega) _, Lies.set (w := w1) c0w 0 _, ((ints_owned (xs := xs ++ [0]) (by rw [List.map_append]; exact ho)).lower (by omega)).set2 (fun b o e => by injection e with e; injection e with e1 e2; subst e1; exact hgg), ((ints_owned OY2.out).lower (by omega)).set2 (fun b o e => by injection e with e; injection e with e1 e2; subst e1; exact np), ⟨by omega, by omega⟩, ⟨by omega, by omega⟩⟩
    clear ho hw hat hlt1 OX1 OY1 OY2 NEWS c0w Dd L1d LOd LPd B
    go_upto_region 11 with fail
    clear s0 s1
    generalize hW : w1.setCell ⟨W1.heap.size, 0, none⟩ (.slice (some ⟨gg, 0, none⟩) (n + 1) cap) = wr at *
    clear hW
    have c0 : wr.cell? ⟨W1.heap.size, 0, none⟩ = some (.slice (some ⟨gg, 0, none⟩) (n + 1) cap) := BW.out.O.cell 0
    have c1 : wr.cell? ⟨W1.heap.size, 1, none⟩ = some (.slice (some ⟨p, 0, none⟩) n c') := BW.out.O.cell 1
    have r0 : wr.cell? ⟨w.heap.size, 0, none⟩ = some (.slice none 0 0) := BW.out.R.cell 0
    have r1 : wr.cell? ⟨w.heap.size, 1, none⟩ = some (.slice none 0 0) := BW.out.R.cell 1
    have f0 : wr.frozen? ⟨w.heap.size, 0, none⟩ = false := BW.out.R.thawed 0
    have f1 : wr.frozen? ⟨w.heap.size, 1, none⟩ = false := BW.out.R.thawed 1
    go_wp2
    refine bodyPost_ret (v := .agg #[.slice (some ⟨gg, 0, none⟩) (n + 1) cap, .slice (some ⟨p, 0, none⟩) n c']) (by simp [results, Try.results62, go_sem, r0, r1]) rfl ⟨(some ⟨gg, 0, none⟩), (some ⟨p, 0, none⟩), (n + 1), cap, n, c', (xs ++ [0]), ys, rfl, BW.out.done hg⟩
  by_cases hv3 : v = 3
  · subst hv3
    have hc1 : 1 < cur'.size := by omega
    have B := (Below.refl W2.heap.size W2).drew.alloc (Nat.le_refl _) (.cells #[.int .i64 1000, .int .i64 1001, .int .i64 (-1000)] 2)
    have LPd := Lib.hid (LP.out.kept B LP.out.inside)
    have LOd := Lib.hid (LO.out.kept B LO.out.inside)
    have Dd := Lib.hid (D3.out.below B)
    have hgs : g < W2.heap.size := D3.out.s.inside.2
    have HI := Lib.hid (ints_laid W2.drew [1000, 1001, -1000] (by simp))
    have k_0 : (W2.alloc (.cells #[.int .i64 1000, .int .i64 1001, .int .i64 (-1000)] 2)).drew.cell? ⟨W1.heap.size, 1, none⟩ = some (.slice (some ⟨p, 0, none⟩) n c') := LOd.out.cell 1
    go_upto_region 10 with fail
    go_region_held3 (fun w' => w'.cell? ⟨W1.heap.size, 1, none⟩ = some (.slice (some ⟨p, 0, none⟩) n c'))
      (first | (simp [go_sem, o0, o1, cy0]; done) | with_reducible exact k_0 | with_reducible exact k_1 | with_reducible exact k_2 | fail)
      (first
        | (go_at_call 67; refine (l1Pick_any lo g W2.heap.size 3 _ _ [1000, 1001, -1000] _ _ Dd.out.s (by omega) HI.out hgs (by decide) (by decide)).mono ?_
           rintro e Wp ⟨x, rfl, hx, dp⟩
           have k_1 : Wp.cell? ⟨W1.heap.size, 1, none⟩ = some (.slice (some ⟨p, 0, none⟩) n c') := (dp.lies LOd.out (by omega)).cell 1
           have k_2 : (Wp.setCell ⟨p, 1, none⟩ (.int .i64 x)).cell? ⟨W1.heap.size, 1, none⟩ = some (.slice (some ⟨p, 0, none⟩) n c') := ((dp.lies LOd.out (by omega)).far hne2 _).cell 1
           have sq : Wp.cell? ⟨p, 1, none⟩ = some (cur'[1]'hc1) := ((dp.lies LPd.out (by omega)).cell 1).trans (Array.getElem?_eq_getElem hc1)
           have fq : Wp.frozen? ⟨p, 1, none⟩ = false := (dp.lies LPd.out (by omega)).thawed 1))
    have BW : Hid (BentW w (Wp.setCell ⟨p, 1, none⟩ (.int .i64 x)) lo g W1.heap.size (M + 6 * n + 4) (some ⟨q, 0, none⟩) (some ⟨p, 0, none⟩) n c n c' xs (ys.set 1 x)) :=
      ⟨((Dd.out.trans dp).mono (by omega)).put (by show w.heap.size ≤ p; omega) hg _, (dp.lies (L1.out.kept B L1.out.inside) (by omega)).far (by show w.heap.size ≠ p; omega) _, (dp.lies LOd.out (by omega)).far hne2 _, (dp.ints (IX.out.kept B) (by omega)).set2 (fun b o e => by injection e with e; injection e with e1 e2; subst e1; exact hqp), (dp.ints (IY.out.kept B) (by omega)).set1 (by omega), ⟨by omega, by omega⟩, ⟨by omega, by omega⟩⟩
    clear k_0 k_1 k_2 sq fq dp HI Dd LOd LPd hx B o0 o1 cy0 hc0
    generalize hW : Wp.setCell ⟨p, 1, none⟩ (.int .i64 x) = wr at *
    clear hW
    have c0 : wr.cell? ⟨W1.heap.size, 0, none⟩ = some (.slice (some ⟨q, 0, none⟩) n c) := BW.out.O.cell 0
    have c1 : wr.cell? ⟨W1.heap.size, 1, none⟩ = some (.slice (some ⟨p, 0, none⟩) n c') := BW.out.O.cell 1
    have r0 : wr.cell? ⟨w.heap.size, 0, none⟩ = some (.slice none 0 0) := BW.out.R.cell 0
    have r1 : wr.cell? ⟨w.heap.size, 1, none⟩ = some (.slice none 0 0) := BW.out.R.cell 1
    have f0 : wr.frozen? ⟨w.heap.size, 0, none⟩ = false := BW.out.R.thawed 0
    have f1 : wr.frozen? ⟨w.heap.size, 1, none⟩ = false := BW.out.R.thawed 1
    go_wp2
    refine bodyPost_ret (v := .agg #[.slice (some ⟨q, 0, none⟩) n c, .slice (some ⟨p, 0, none⟩) n c']) (by simp [results, Try.results62, go_sem, r0, r1]) rfl ⟨(some ⟨q, 0, none⟩), (some ⟨p, 0, none⟩), n, c, n, c', xs, (ys.set 1 x), rfl, BW.out.done hg⟩
  have BW : Hid (BentW w W2 lo g W1.heap.size (M + 6 * n + 4) (some ⟨q, 0, none⟩) (some ⟨p, 0, none⟩) n c n c' xs ys) :=
      ⟨D3.out.mono (by omega), L1.out, LO.out, IX.out, IY.out, ⟨by omega, by omega⟩, ⟨by omega, by omega⟩⟩
  clear D3 L1 LO IX IY OX OY LQ LP CY o0 o1 cy0 hc0
  have c0 : W2.cell? ⟨W1.heap.size, 0, none⟩ = some (.slice (some ⟨q, 0, none⟩) n c) := BW.out.O.cell 0
  have c1 : W2.cell? ⟨W1.heap.size, 1, none⟩ = some (.slice (some ⟨p, 0, none⟩) n c') := BW.out.O.cell 1
  have r0 : W2.cell? ⟨w.heap.size, 0, none⟩ = some (.slice none 0 0) := BW.out.R.cell 0
  have r1 : W2.cell? ⟨w.heap.size, 1, none⟩ = some (.slice none 0 0) := BW.out.R.cell 1
  have f0 : W2.frozen? ⟨w.heap.size, 0, none⟩ = false := BW.out.R.thawed 0
  have f1 : W2.frozen? ⟨w.heap.size, 1, none⟩ = false := BW.out.R.thawed 1
  go_wp2
  refine bodyPost_ret (v := .agg #[.slice (some ⟨q, 0, none⟩) n c, .slice (some ⟨p, 0, none⟩) n c']) (by simp [results, Try.results62, go_sem, r0, r1]) rfl ⟨(some ⟨q, 0, none⟩), (some ⟨p, 0, none⟩), n, c, n, c', xs, ys, rfl, BW.out.done hg⟩

end Go.Proofs.Ytfpmbkfikfdmkaa
