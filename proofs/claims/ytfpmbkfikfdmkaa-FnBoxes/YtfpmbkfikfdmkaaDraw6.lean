/- The draws: a source made of bytes, and two boxes. -/
import Derived.Test.YtfpmbkfikfdmkaaDraw5
import Derived.Test.YtfpmbkfikfdmkaaRects
import Derived.Test.YtfpmbkfikfdmkaaCopy2
import Derived.Test.YtfpmbkfikfdmkaaSpecTwo
namespace Go.Proofs.Ytfpmbkfikfdmkaa
open Go.RowKit

/-- A box that reads as two lists, from l on. -/
structure BoxI (w : World) (l : Nat) (A A' : Option Addr) (n n' : Nat) (xs ys : List Int) : Prop where
  X : Ints w l A n xs
  Y : Ints w l A' n' ys
  n1 : 1 ≤ n ∧ n ≤ 4
  n2 : 1 ≤ n' ∧ n' ≤ 4
theorem BoxI.kept {w w' : World} {l n n' : Nat} {A A' : Option Addr} {xs ys : List Int} (h : BoxI w l A A' n n' xs ys) (hb : Below w.heap.size w w') : BoxI w' l A A' n n' xs ys := ⟨h.X.kept hb, h.Y.kept hb, h.n1, h.n2⟩
theorem BoxI.drew1 {w w' : World} {lo g l n n' : Nat} {M : Int} {A A' : Option Addr} {xs ys : List Int} (h : BoxI w l A A' n n' xs ys) (hd : Drew1 w w' lo g M) (hl : g < l) : BoxI w' l A A' n n' xs ys := ⟨hd.ints h.X hl, hd.ints h.Y hl, h.n1, h.n2⟩
theorem BoxI.put {w : World} {l n n' : Nat} {A A' : Option Addr} {xs ys : List Int} {a : Addr} {v : Value} (h : BoxI w l A A' n n' xs ys) (ha : a.block < l) : BoxI (w.setCell a v) l A A' n n' xs ys := ⟨h.X.put ha, h.Y.put ha, h.n1, h.n2⟩
theorem BoxI.drew {w : World} {l n n' : Nat} {A A' : Option Addr} {xs ys : List Int} (h : BoxI w l A A' n n' xs ys) : BoxI w.drew l A A' n n' xs ys := h.kept (Below.refl _ _).drew
theorem BoxI.lower {w : World} {l l' n n' : Nat} {A A' : Option Addr} {xs ys : List Int} (h : BoxI w l A A' n n' xs ys) (hl : l' ≤ l) : BoxI w l' A A' n n' xs ys := ⟨h.X.lower hl, h.Y.lower hl, h.n1, h.n2⟩
theorem BoxD.box {w w' : World} {lo g n n' : Nat} {M : Int} {A A' : Option Addr} {xs ys : List Int} (h : BoxD w w' lo g M A A' n n' xs ys) : BoxI w' (g + 1) A A' n n' xs ys := ⟨h.X, h.Y, h.n1, h.n2⟩

set_option maxHeartbeats 1600000 in
theorem l1Source_any (lo n c : Nat) (A : Option Addr) (zs : List Int) (w : World) (hz : Bys w lo A n zs) (hlo : lo ≤ w.heap.size) (hn : n ≤ 1048576) :
    Calls Try.prog 60 #[.slice A n c] w fun e w' => e = .returned (.pointer (some ⟨w.heap.size, 0, none⟩)) ∧ Src w' lo w.heap.size 0 ∧ Below w.heap.size w w' := by
  have B := below_alloc w (.cells #[.slice A n c, .int .i64 0] 148)
  have L := Lies.new w 148 #[.slice A n c, .int .i64 0]
  have S := Lib.hid (show Src (w.alloc (.cells #[.slice A n c, .int .i64 0] 148)) lo w.heap.size 0 from ⟨A, n, c, zs, 0, L, by omega, by omega, hz.low (B.mono hlo), hn, hlo⟩)
  clear L hz
  go_enter Try.func60, Try.ntmps60
  go_wp2
  go_ret
  exact ⟨rfl, S.out, B⟩

set_option maxHeartbeats 1600000 in
theorem l1Later_any (lo n c : Nat) (A : Option Addr) (zs : List Int) (k : Int) (w : World) (hz : Bys w lo A n zs) (hlo : lo ≤ w.heap.size) (hn : n ≤ 1048576) (hk : 0 ≤ k ∧ k ≤ 100) :
    Calls Try.prog 73 #[.slice A n c, .int .i64 k] w fun e w' => e = .returned (.pointer (some ⟨w.heap.size, 0, none⟩)) ∧ Src w' lo w.heap.size 1000 ∧ Below w.heap.size w w' := by
  have B := below_alloc w (.cells #[.slice A n c, .int .i64 (5 + 7 * k)] 148)
  have L := Lies.new w 148 #[.slice A n c, .int .i64 (5 + 7 * k)]
  have S := Lib.hid (show Src (w.alloc (.cells #[.slice A n c, .int .i64 (5 + 7 * k)] 148)) lo w.heap.size 1000 from ⟨A, n, c, zs, 5 + 7 * k, L, by omega, by omega, hz.low (B.mono hlo), hn, hlo⟩)
  clear L hz
  go_enter Try.func73, Try.ntmps73
  go_wp2
  go_ret
  exact ⟨rfl, S.out, B⟩

theorem Ints.turned {w w' : World} {P : Nat → Prop} {l n : Nat} {A : Option Addr} {xs : List Int} (h : Ints w l A n xs) (ht : Turned P w w') (hp : ∀ x, P x → x < l ∨ w.heap.size ≤ x) : Ints w' l A n xs := by
  obtain ⟨h0, hr⟩ := h
  refine ⟨h0, fun hn => ?_⟩
  obtain ⟨b, o, e, h1, h2, h3⟩ := hr hn
  exact ⟨b, o, e, h1, Nat.lt_of_lt_of_le h2 ht.2.1, fun k x hx => (World.cell?_of_block (w := w) (a := ⟨b, o + k, none⟩) (ht.2.2 b h2 (fun hP => by have := hp b hP; omega))).trans (h3 k x hx)⟩
theorem BoxI.turned {w w' : World} {P : Nat → Prop} {l n n' : Nat} {A A' : Option Addr} {xs ys : List Int} (h : BoxI w l A A' n n' xs ys) (ht : Turned P w w') (hp : ∀ x, P x → x < l ∨ w.heap.size ≤ x) : BoxI w' l A A' n n' xs ys := ⟨h.X.turned ht hp, h.Y.turned ht hp, h.n1, h.n2⟩

/-- Two boxes that were drawn. -/
def Drawn2 (w w' : World) (e : Ending) : Prop :=
  ∃ (A A' B B' : Option Addr) (n c n' c' m d m' d' : Nat) (xs ys us vs : List Int), e = .returned (.tuple #[.agg #[.slice A n c, .slice A' n' c'], .agg #[.slice B m d, .slice B' m' d']]) ∧ BoxI w' w.heap.size A A' n n' xs ys ∧ BoxI w' w.heap.size B B' m m' us vs ∧ Below w.heap.size w w'

set_option maxRecDepth 100000 in
set_option maxHeartbeats 12800000 in
theorem drawUnionOf_any (lo n0 c0 : Nat) (A0 : Option Addr) (zs : List Int) (w : World) (hz : Bys w lo A0 n0 zs) (hlo : lo ≤ w.heap.size) (hn0 : n0 ≤ 1048576) :
    Calls Try.prog 10 #[.slice A0 n0 c0] w fun e w' => Drawn2 w w' e := by
  obtain ⟨W0, hW0⟩ : ∃ W0, (w.alloc (.cells #[.slice none 0 0, .slice none 0 0] 26)).alloc (.cells #[.slice none 0 0, .slice none 0 0] 26) = W0 := ⟨_, rfl⟩
  have B0 : Below w.heap.size w W0 := by rw [← hW0]; exact (below_alloc _ _).alloc (below_alloc _ _).size _
  have s0 : W0.heap.size = w.heap.size + 1 + 1 := by rw [← hW0]; simp only [World.size_alloc]
  have L2 : Hid (Lies W0 w.heap.size 26 #[.slice none 0 0, .slice none 0 0]) := by rw [← hW0]; exact (Lies.new w _ _).alloc _
  have L3 : Hid (Lies W0 (w.heap.size + 1) 26 #[.slice none 0 0, .slice none 0 0]) := by rw [← hW0]; exact Lies.laid2 w _ _ _
  have HZ := Lib.hid (hz.low (B0.mono hlo))
  clear hz
  go_enter Try.func10, Try.ntmps10
  go_wp2_with fail
  clear hW0
  refine (l1Source_any lo n0 c0 A0 zs W0 HZ.out (by omega) hn0).mono ?_
  rintro e W1 ⟨rfl, s1, b1⟩
  have S1 := Lib.hid s1
  have B1 := Lib.hid (B0.trans (b1.mono (by omega)))
  replace L2 := Lib.hid (L2.out.kept b1 L2.out.inside)
  replace L3 := Lib.hid (L3.out.kept b1 L3.out.inside)
  have z1 := s1.inside
  clear s1 b1 B0 HZ
  rw [s0] at S1 z1
  have hx1 : w.heap.size + 1 + 1 < W1.heap.size := z1.2
  rw [s0]
  go_wp2_with fail
  refine (l1Dims_any lo _ _ _ S1.out (by decide)).mono ?_
  rintro e W2 ⟨dm, rfl, hdm, d1⟩
  replace L2 := Lib.hid (d1.lies L2.out (by omega))
  replace L3 := Lib.hid (d1.lies L3.out (by omega))
  have DD := Lib.hid d1
  have hx2 := d1.size
  clear d1 S1
  go_wp2_with fail
  refine (l1Bent_any lo _ dm _ _ DD.out.s (by decide) (by omega)).mono ?_
  rintro e W3 ⟨A, A', n, c, n', c', xs, ys, rfl, bd⟩
  have AI := Lib.hid bd.box
  replace L2 := Lib.hid (bd.D.lies L2.out (by omega))
  replace L3 := Lib.hid (bd.D.lies L3.out (by omega))
  replace DD := Lib.hid ((DD.out.trans bd.D).mono (show _ ≤ (25 : Int) by omega))
  have hx3 := bd.D.size
  clear bd
  have Ba := below_alloc W3 (.cells #[.slice A n c, .slice A' n' c'] 26)
  replace AI := Lib.hid (AI.out.kept Ba)
  replace L2 := Lib.hid (L2.out.kept Ba L2.out.inside)
  replace L3 := Lib.hid (L3.out.kept Ba L3.out.inside)
  replace DD := Lib.hid (DD.out.below Ba)
  have La := Lib.hid (Lies.new W3 26 #[.slice A n c, .slice A' n' c'])
  clear Ba
  go_wp2_with fail
  refine (l1Chance_any lo _ 4 _ _ DD.out.s (by decide) (by decide) (by decide)).mono ?_
  rintro e W4 ⟨v, rfl, d4⟩
  have hx4 := d4.size
  simp only [World.size_alloc] at hx4
  replace AI := Lib.hid (AI.out.drew1 d4 (by omega))
  replace L2 := Lib.hid (d4.lies L2.out (by omega))
  replace L3 := Lib.hid (d4.lies L3.out (by omega))
  replace La := Lib.hid (d4.lies La.out (by omega))
  replace DD := Lib.hid ((DD.out.trans d4).mono (show _ ≤ (30 : Int) by omega))
  clear d4
  have k0 : W4.cell? ⟨W3.heap.size, 0, none⟩ = some (.slice A n c) := La.out.cell 0
  have k1 : W4.cell? ⟨W3.heap.size, 1, none⟩ = some (.slice A' n' c') := La.out.cell 1
  have mn := AI.out.n1
  have mn' := AI.out.n2
  cases v with
  | true =>
    go_wp2_with fail
    refine (specRectFault_any dm _ _ _ _ _ _ _ _ xs ys _ AI.out.X AI.out.Y (Nat.le_trans mn.2 (by decide)) (Nat.le_trans mn'.2 (by decide))).mono ?_
    rintro e W5 ⟨rfl, b5⟩
    replace AI := Lib.hid (AI.out.kept b5)
    replace L2 := Lib.hid (L2.out.kept b5 L2.out.inside)
    replace L3 := Lib.hid (L3.out.kept b5 L3.out.inside)
    replace La := Lib.hid (La.out.kept b5 La.out.inside)
    replace DD := Lib.hid (DD.out.below b5)
    have hx5 := b5.size
    clear b5 k0 k1
    have k0 : W5.cell? ⟨W3.heap.size, 0, none⟩ = some (.slice A n c) := La.out.cell 0
    have k1 : W5.cell? ⟨W3.heap.size, 1, none⟩ = some (.slice A' n' c') := La.out.cell 1
    by_cases hr : rf xs ys dm = 0
    · have hr' : (rf xs ys dm == 0) = true := by simpa using hr
      have hpx : pf xs dm = 0 := by
        by_cases h : pf xs dm = 0
        · exact h
        · rw [rf, if_pos h] at hr; exact absurd hr h
      have hpy : pf ys dm = 0 := by
        by_cases h : pf ys dm = 0
        · exact h
        · rw [rf, if_neg (by simpa using hpx), if_pos h] at hr; exact absurd hr h
      obtain ⟨_, lx, _⟩ := pf_zero hpx
      obtain ⟨_, ly, ry⟩ := pf_zero hpy
      have ex := AI.out.X.1
      have ey := AI.out.Y.1
      obtain rfl : n' = n := by omega
      have hn3 : n' ≤ 3 := by omega
      obtain ⟨y0, hy0⟩ : ∃ y0, ys[0]? = some y0 := ⟨_, List.getElem?_eq_getElem (by omega)⟩
      have hin := allIn_at ry hy0
      go_wp2_with fail
      refine (l1Copy_own W3.heap.size 0 n' c c' _ _ A A' xs ys W5 La.out.inside k0 k1 AI.out.X AI.out.Y (by omega) hn3).mono ?_
      rintro e W6 ⟨g1, p1, g2, p2, rfl, o1, o2, hne, b6⟩
      have o1w := owns_base2 o1
      have o2w := owns_base2 o2
      have hx6 := b6.size
      have DD6 := Lib.hid (DD.out.below b6)
      have T6 : Hid (Turned (fun x => x = w.heap.size + 1 + 1 ∨ W5.heap.size ≤ x) W5 W6) := Turned.of_below b6
      go_upto_region 6 with fail
      have Bb := below_alloc W6 (.cells #[.slice (some ⟨g1, 0, none⟩) n' p1, .slice (some ⟨g2, 0, none⟩) n' p2] 26)
      have DD7 := Lib.hid (DD6.out.below Bb)
      have T7 := Lib.hid (T6.out.trans (Turned.of_below Bb))
      have Lb := Lib.hid (Lies.new W6 26 #[.slice (some ⟨g1, 0, none⟩) n' p1, .slice (some ⟨g2, 0, none⟩) n' p2])
      have O1 := Lib.hid (owns_kept2 o1 Bb)
      have O2 := Lib.hid (owns_kept2 o2 Bb)
      clear Bb o1 o2 DD6 T6 b6 DD
      have hW7 : (W6.alloc (.cells #[.slice (some ⟨g1, 0, none⟩) n' p1, .slice (some ⟨g2, 0, none⟩) n' p2] 26)).heap.size = W6.heap.size + 1 := by simp only [World.size_alloc]
      generalize hW : W6.alloc (.cells #[.slice (some ⟨g1, 0, none⟩) n' p1, .slice (some ⟨g2, 0, none⟩) n' p2] 26) = W7 at *
      clear hW
      have hx7 : W6.heap.size < W7.heap.size := by omega
      clear hW7
      obtain ⟨q2, cur, e2, hq0, lq, ⟨hq2, _⟩, hq3⟩ := owned_lies O2.out (by omega)
      injection e2 with e2; injection e2 with e2; subst e2
      have Lq := Lib.hid lq
      have cq := Lib.hid (hq3 0 y0 hy0)
      clear lq hq3
      have hc0 : 0 < cur.size := by omega
      have u0 : 0 < n' := by omega
      have u2 : ((0 : Int) < (n' : Int)) := by omega
      have q0 : W7.cell? ⟨W6.heap.size, 1, none⟩ = some (.slice (some ⟨g2, 0, none⟩) n' p2) := Lb.out.cell 1
      have q1 : W7.cell? ⟨g2, 0, none⟩ = some (.int .i64 y0) := (Lq.out.cell 0).trans cq.out
      have B := ((Below.refl W7.heap.size W7).alloc (Nat.le_refl _) (.cells #[.int .i64 0, .int .i64 1, .int .i64 5] 2)).drew
      have Lqd := Lib.hid (Lq.out.kept B Lq.out.inside)
      have Lbd := Lib.hid (Lb.out.kept B Lb.out.inside)
      have Dd := Lib.hid (DD7.out.below B)
      have hgs : w.heap.size + 1 + 1 < W7.heap.size := by omega
      have HI : Hid (Ints (W7.alloc (.cells #[.int .i64 0, .int .i64 1, .int .i64 5] 2)).drew W7.heap.size (some ⟨W7.heap.size, 0, none⟩) 3 [0, 1, 5]) := ints_laid W7 [0, 1, 5] (by decide)
      have ne1 : ¬ g2 = W6.heap.size := by omega
      have ne2 : ¬ W6.heap.size = g2 := by omega
      have ne3 : ¬ g2 = W3.heap.size := by omega
      have ne4 : ¬ W3.heap.size = g2 := by omega
      have k_0 : (W7.alloc (.cells #[.int .i64 0, .int .i64 1, .int .i64 5] 2)).drew.cell? ⟨W6.heap.size, 1, none⟩ = some (.slice (some ⟨g2, 0, none⟩) n' p2) ∧ (W7.alloc (.cells #[.int .i64 0, .int .i64 1, .int .i64 5] 2)).drew.cell? ⟨g2, 0, none⟩ = some (.int .i64 y0) := ⟨Lbd.out.cell 1, (Lqd.out.cell 0).trans cq.out⟩
      have CP := Lib.hid (l1Pick_any lo (w.heap.size + 1 + 1) W7.heap.size 3 3 (some ⟨W7.heap.size, 0, none⟩) [0, 1, 5] 30 _ Dd.out.s (by omega) HI.out hgs (by decide) (by decide))
      have ka1 : (W7.alloc (.cells #[.int .i64 0, .int .i64 1, .int .i64 5] 2)).drew.cell? ⟨W6.heap.size, 1, none⟩ = some (.slice (some ⟨g2, 0, none⟩) n' p2) := k_0.1
      have ka2 : (W7.alloc (.cells #[.int .i64 0, .int .i64 1, .int .i64 5] 2)).drew.cell? ⟨g2, 0, none⟩ = some (.int .i64 y0) := k_0.2
      have lt1 : W6.heap.size < W7.heap.size := hx7
      have lt2 : g2 < W7.heap.size := Lq.out.inside
      go_cut [34] (fun s34 wx => ∃ (us : List Int) (z : Int), s34 = .int .i64 z ∧ Hid (Drew1 W1 wx lo (w.heap.size + 1 + 1) 31) ∧ Hid (Turned (fun x => x = w.heap.size + 1 + 1 ∨ W5.heap.size ≤ x) W5 wx) ∧ Hid (Lies wx W6.heap.size 26 #[.slice (some ⟨g1, 0, none⟩) n' p1, .slice (some ⟨g2, 0, none⟩) n' p2]) ∧ Hid (BoxI wx W5.heap.size (some ⟨g1, 0, none⟩) (some ⟨g2, 0, none⟩) n' n' xs us))
      case first =>
        go_region_with (first
            | (go_at_call 67; refine CP.out.mono ?_
               rintro e Wp ⟨x, rfl, hx, dp⟩
               obtain ⟨z, hz⟩ : ∃ z, IntKind.i64.wrap (y0 + x) = z := ⟨_, rfl⟩
               have kp1 : Wp.cell? ⟨W6.heap.size, 1, none⟩ = some (.slice (some ⟨g2, 0, none⟩) n' p2) := (dp.lies Lbd.out (by omega)).cell 1
               have kp2 : Wp.cell? ⟨g2, 0, none⟩ = some (.int .i64 y0) := ((dp.lies Lqd.out (by omega)).cell 0).trans cq.out
               have fq : Wp.frozen? ⟨g2, 0, none⟩ = false := (dp.lies Lqd.out (by omega)).thawed 0)
            | (go_at_call 66; refine (l1Min_any z 1000 _).mono ?_
               rintro e Wm ⟨rfl, rfl⟩
               have kp3 : (Wm.setCell ⟨g2, 0, none⟩ (.int .i64 (min z 1000))).cell? ⟨W6.heap.size, 1, none⟩ = some (.slice (some ⟨g2, 0, none⟩) n' p2) := ((dp.lies Lbd.out (by omega)).far ne2 _).cell 1))
        all_goals go_wp2_with fail
        all_goals go_meet
        all_goals exact ⟨ys.set 0 (min z 1000), min z 1000, rfl, ((DD7.out.below B).trans dp).put (by show W1.heap.size ≤ g2; omega) hx1 _, ((T7.out.trans (Turned.of_below B)).trans (dp.T.wider (fun x e => Or.inl e))).setCell (a := ⟨g2, 0, none⟩) (Or.inr (by show W5.heap.size ≤ g2; omega)) _, (dp.lies Lbd.out (by omega)).far ne2 _, ⟨(ints_owned (dp.owns (owns_kept2 O1.out B) (by omega))).set2 (fun b o e => by injection e with e; injection e with e1 e2; subst e1; exact hne), (ints_owned (dp.owns (owns_kept2 O2.out B) (by omega))).set1 (by omega), ⟨by omega, by omega⟩, ⟨by omega, by omega⟩⟩⟩
      case' rest =>
        obtain ⟨us, z, rfl, D8, T8, Lb8, B8⟩ := hcut
        replace AI := Lib.hid (AI.out.turned T8.out (by intro x hx; omega))
        replace L2 := Lib.hid (T8.out.lies L2.out (by omega))
        replace L3 := Lib.hid (T8.out.lies L3.out (by omega))
        replace La := Lib.hid (T8.out.lies La.out (by omega))
        clear B Lqd Lbd Dd DD7 T7 Lb O1 O2 Lq cq q0 q1 k_0 ka1 ka2 CP HI k0 k1 T8
        have a0 : wc.cell? ⟨W3.heap.size, 0, none⟩ = some (.slice A n' c) := La.out.cell 0
        have a1 : wc.cell? ⟨W3.heap.size, 1, none⟩ = some (.slice A' n' c') := La.out.cell 1
        have b0 : wc.cell? ⟨W6.heap.size, 0, none⟩ = some (.slice (some ⟨g1, 0, none⟩) n' p1) := Lb8.out.cell 0
        have b1 : wc.cell? ⟨W6.heap.size, 1, none⟩ = some (.slice (some ⟨g2, 0, none⟩) n' p2) := Lb8.out.cell 1
        have r0 : wc.cell? ⟨w.heap.size, 0, none⟩ = some (.slice none 0 0) := L2.out.cell 0
        have r1 : wc.cell? ⟨w.heap.size, 1, none⟩ = some (.slice none 0 0) := L2.out.cell 1
        have r2 : wc.cell? ⟨w.heap.size + 1, 0, none⟩ = some (.slice none 0 0) := L3.out.cell 0
        have r3 : wc.cell? ⟨w.heap.size + 1, 1, none⟩ = some (.slice none 0 0) := L3.out.cell 1
        have f0 : wc.frozen? ⟨w.heap.size, 0, none⟩ = false := L2.out.thawed 0
        have f1 : wc.frozen? ⟨w.heap.size, 1, none⟩ = false := L2.out.thawed 1
        have f2 : wc.frozen? ⟨w.heap.size + 1, 0, none⟩ = false := L3.out.thawed 0
        have f3 : wc.frozen? ⟨w.heap.size + 1, 1, none⟩ = false := L3.out.thawed 1
        have m1 : ¬ W3.heap.size = w.heap.size := by omega
        have m2 : ¬ W3.heap.size = w.heap.size + 1 := by omega
        have m3 : ¬ W6.heap.size = w.heap.size := by omega
        have m4 : ¬ W6.heap.size = w.heap.size + 1 := by omega
        have m5 : ¬ w.heap.size = W3.heap.size := by omega
        have m6 : ¬ w.heap.size + 1 = W3.heap.size := by omega
        have m7 : ¬ w.heap.size = W6.heap.size := by omega
        have m8 : ¬ w.heap.size + 1 = W6.heap.size := by omega
        go_upto_region 7 with fail
        go_region_held3 (fun w' => w'.cell? ⟨W3.heap.size, 0, none⟩ = some (.slice A n' c) ∧ w'.cell? ⟨W3.heap.size, 1, none⟩ = some (.slice A' n' c') ∧ w'.cell? ⟨W6.heap.size, 0, none⟩ = some (.slice (some ⟨g1, 0, none⟩) n' p1) ∧ w'.cell? ⟨W6.heap.size, 1, none⟩ = some (.slice (some ⟨g2, 0, none⟩) n' p2)) (go_keep) (fail)
        have BB : Hid (Below w.heap.size w wc) := B1.out.trans (D8.out.T.1 w.heap.size (fun k hk => by omega) (by omega))
        go_wp2
        refine bodyPost_ret (v := .tuple #[.agg #[.slice A n' c, .slice A' n' c'], .agg #[.slice (some ⟨g1, 0, none⟩) n' p1, .slice (some ⟨g2, 0, none⟩) n' p2]]) (by simp [results, Try.results10, go_sem, r0, r1, r2, r3]) rfl ⟨A, A', some ⟨g1, 0, none⟩, some ⟨g2, 0, none⟩, n', c, n', c', n', p1, n', p2, xs, ys, xs, us, rfl, ?_, ?_, ?_⟩
        · exact (((((AI.out.put (a := ⟨w.heap.size, 0, none⟩) (by show w.heap.size < _; omega)).put (a := ⟨w.heap.size, 1, none⟩) (by show w.heap.size < _; omega)).put (a := ⟨w.heap.size + 1, 0, none⟩) (by show w.heap.size + 1 < _; omega)).put (a := ⟨w.heap.size + 1, 1, none⟩) (by show w.heap.size + 1 < _; omega)).lower (l' := w.heap.size) (by omega)).drew
        · exact (((((B8.out.put (a := ⟨w.heap.size, 0, none⟩) (by show w.heap.size < _; omega)).put (a := ⟨w.heap.size, 1, none⟩) (by show w.heap.size < _; omega)).put (a := ⟨w.heap.size + 1, 0, none⟩) (by show w.heap.size + 1 < _; omega)).put (a := ⟨w.heap.size + 1, 1, none⟩) (by show w.heap.size + 1 < _; omega)).lower (l' := w.heap.size) (by omega)).drew
        · exact ((((BB.out.setCell (show w.heap.size ≤ (⟨w.heap.size, 0, none⟩ : Addr).block from by show w.heap.size ≤ w.heap.size; omega) _).setCell (show w.heap.size ≤ (⟨w.heap.size, 1, none⟩ : Addr).block from by show w.heap.size ≤ w.heap.size; omega) _).setCell (show w.heap.size ≤ (⟨w.heap.size + 1, 0, none⟩ : Addr).block from by show w.heap.size ≤ w.heap.size + 1; omega) _).setCell (show w.heap.size ≤ (⟨w.heap.size + 1, 1, none⟩ : Addr).block from by show w.heap.size ≤ w.heap.size + 1; omega) _).drew
    · have hr' : (rf xs ys dm == 0) = false := by simpa using hr
      have BW := Lib.hid B1.out
      have hxs : W1.heap.size ≤ W5.heap.size := by omega
      have h3s : W3.heap.size < W5.heap.size := La.out.inside
      have B := ((Below.refl W5.heap.size W5).alloc (Nat.le_refl _) (.cells #[.int .i64 (dm : Int), .int .i64 (dm : Int), .int .i64 (dm : Int), .int .i64 (dm : Int), .int .i64 (dm : Int), .int .i64 2] 2)).drew
      have L2d := Lib.hid (L2.out.kept B L2.out.inside)
      have L3d := Lib.hid (L3.out.kept B L3.out.inside)
      have Lad := Lib.hid (La.out.kept B La.out.inside)
      have AId := Lib.hid (AI.out.kept B)
      have Dd := Lib.hid (DD.out.below B)
      have HI : Hid (Ints (W5.alloc (.cells #[.int .i64 (dm : Int), .int .i64 (dm : Int), .int .i64 (dm : Int), .int .i64 (dm : Int), .int .i64 (dm : Int), .int .i64 2] 2)).drew W5.heap.size (some ⟨W5.heap.size, 0, none⟩) 6 [(dm : Int), dm, dm, dm, dm, 2]) := ints_laid W5 [(dm : Int), dm, dm, dm, dm, 2] (by simp)
      have CP := Lib.hid (l1Pick_any lo (w.heap.size + 1 + 1) W5.heap.size 6 6 (some ⟨W5.heap.size, 0, none⟩) [(dm : Int), dm, dm, dm, dm, 2] 30 _ Dd.out.s (by omega) HI.out (by omega) (by decide) (by decide))
      have k_0 : (W5.alloc (.cells #[.int .i64 (dm : Int), .int .i64 (dm : Int), .int .i64 (dm : Int), .int .i64 (dm : Int), .int .i64 (dm : Int), .int .i64 2] 2)).drew.cell? ⟨W3.heap.size, 0, none⟩ = some (.slice A n c) ∧ (W5.alloc (.cells #[.int .i64 (dm : Int), .int .i64 (dm : Int), .int .i64 (dm : Int), .int .i64 (dm : Int), .int .i64 (dm : Int), .int .i64 2] 2)).drew.cell? ⟨W3.heap.size, 1, none⟩ = some (.slice A' n' c') := ⟨Lad.out.cell 0, Lad.out.cell 1⟩
      have m1 : ¬ W3.heap.size = w.heap.size := by omega
      have m2 : ¬ W3.heap.size = w.heap.size + 1 := by omega
      have m5 : ¬ w.heap.size = W3.heap.size := by omega
      have m6 : ¬ w.heap.size + 1 = W3.heap.size := by omega
      clear B L2 L3 La AI HI
      go_upto_region 8 with fail
      go_region_held3 (fun w' => w'.cell? ⟨W3.heap.size, 0, none⟩ = some (.slice A n c) ∧ w'.cell? ⟨W3.heap.size, 1, none⟩ = some (.slice A' n' c'))
        (first | (simp [go_sem, k0, k1]; done) | with_reducible exact k_0 | with_reducible exact k_1 | with_reducible exact k_2 | go_keep)
        (first
          | (go_at_call 67; refine CP.out.mono ?_
             rintro e Wp ⟨x, rfl, hx, dp⟩
             obtain ⟨m, rfl, hm⟩ : ∃ m : Nat, x = (m : Int) ∧ (2 ≤ m ∧ m ≤ 3) := by
               simp only [List.mem_cons, List.not_mem_nil, or_false] at hx
               exact ⟨x.toNat, by omega, by omega⟩
             have k_1 : Wp.cell? ⟨W3.heap.size, 0, none⟩ = some (.slice A n c) ∧ Wp.cell? ⟨W3.heap.size, 1, none⟩ = some (.slice A' n' c') := ⟨(dp.lies Lad.out (by omega)).cell 0, (dp.lies Lad.out (by omega)).cell 1⟩)
          | (go_at_call 62; refine (l1Bent_any lo (w.heap.size + 1 + 1) m 31 _ dp.s (by decide) hm).mono ?_
             rintro e Wq ⟨U1, U2, q1, d1, q2, d2, us, vs, rfl, bd⟩
             have k_2 : Wq.cell? ⟨W3.heap.size, 0, none⟩ = some (.slice A n c) ∧ Wq.cell? ⟨W3.heap.size, 1, none⟩ = some (.slice A' n' c') := ⟨(bd.D.lies (dp.lies Lad.out (by omega)) (by omega)).cell 0, (bd.D.lies (dp.lies Lad.out (by omega)) (by omega)).cell 1⟩
             have L2q := bd.D.lies (dp.lies L2d.out (by omega)) (by omega)
             have L3q := bd.D.lies (dp.lies L3d.out (by omega)) (by omega)
             have r0 : Wq.cell? ⟨w.heap.size, 0, none⟩ = some (.slice none 0 0) := L2q.cell 0
             have r1 : Wq.cell? ⟨w.heap.size, 1, none⟩ = some (.slice none 0 0) := L2q.cell 1
             have r2 : Wq.cell? ⟨w.heap.size + 1, 0, none⟩ = some (.slice none 0 0) := L3q.cell 0
             have r3 : Wq.cell? ⟨w.heap.size + 1, 1, none⟩ = some (.slice none 0 0) := L3q.cell 1
             have f0 : Wq.frozen? ⟨w.heap.size, 0, none⟩ = false := L2q.thawed 0
             have f1 : Wq.frozen? ⟨w.heap.size, 1, none⟩ = false := L2q.thawed 1
             have f2 : Wq.frozen? ⟨w.heap.size + 1, 0, none⟩ = false := L3q.thawed 0
             have f3 : Wq.frozen? ⟨w.heap.size + 1, 1, none⟩ = false := L3q.thawed 1))
      have BB : Hid (Below w.heap.size w Wq) := BW.out.trans (((Dd.out.trans dp).trans bd.D).T.1 w.heap.size (fun k hk => by omega) (by omega))
      have AQ := Lib.hid ((AId.out.drew1 dp (by omega)).drew1 bd.D (by omega))
      have BQ := Lib.hid bd.box
      go_wp2
      refine bodyPost_ret (v := .tuple #[.agg #[.slice A n c, .slice A' n' c'], .agg #[.slice U1 q1 d1, .slice U2 q2 d2]]) (by simp [results, Try.results10, go_sem, r0, r1, r2, r3]) rfl ⟨A, A', U1, U2, n, c, n', c', q1, d1, q2, d2, xs, ys, us, vs, rfl, ?_, ?_, ?_⟩
      · exact ((((AQ.out.put (a := ⟨w.heap.size, 0, none⟩) (by show w.heap.size < _; omega)).put (a := ⟨w.heap.size, 1, none⟩) (by show w.heap.size < _; omega)).put (a := ⟨w.heap.size + 1, 0, none⟩) (by show w.heap.size + 1 < _; omega)).put (a := ⟨w.heap.size + 1, 1, none⟩) (by show w.heap.size + 1 < _; omega)).lower (l' := w.heap.size) (by omega)
      · exact ((((BQ.out.put (a := ⟨w.heap.size, 0, none⟩) (by show w.heap.size < _; omega)).put (a := ⟨w.heap.size, 1, none⟩) (by show w.heap.size < _; omega)).put (a := ⟨w.heap.size + 1, 0, none⟩) (by show w.heap.size + 1 < _; omega)).put (a := ⟨w.heap.size + 1, 1, none⟩) (by show w.heap.size + 1 < _; omega)).lower (l' := w.heap.size) (by omega)
      · exact (((BB.out.setCell (show w.heap.size ≤ (⟨w.heap.size, 0, none⟩ : Addr).block from Nat.le_refl _) _).setCell (show w.heap.size ≤ (⟨w.heap.size, 1, none⟩ : Addr).block from Nat.le_refl _) _).setCell (show w.heap.size ≤ (⟨w.heap.size + 1, 0, none⟩ : Addr).block from by show w.heap.size ≤ w.heap.size + 1; omega) _).setCell (show w.heap.size ≤ (⟨w.heap.size + 1, 1, none⟩ : Addr).block from by show w.heap.size ≤ w.heap.size + 1; omega) _
  | false =>
    have BW := Lib.hid B1.out
    have hxs : W1.heap.size ≤ W4.heap.size := by omega
    have h3s : W3.heap.size < W4.heap.size := La.out.inside
    have B := ((Below.refl W4.heap.size W4).alloc (Nat.le_refl _) (.cells #[.int .i64 (dm : Int), .int .i64 (dm : Int), .int .i64 (dm : Int), .int .i64 (dm : Int), .int .i64 (dm : Int), .int .i64 2] 2)).drew
    have L2d := Lib.hid (L2.out.kept B L2.out.inside)
    have L3d := Lib.hid (L3.out.kept B L3.out.inside)
    have Lad := Lib.hid (La.out.kept B La.out.inside)
    have AId := Lib.hid (AI.out.kept B)
    have Dd := Lib.hid (DD.out.below B)
    have HI : Hid (Ints (W4.alloc (.cells #[.int .i64 (dm : Int), .int .i64 (dm : Int), .int .i64 (dm : Int), .int .i64 (dm : Int), .int .i64 (dm : Int), .int .i64 2] 2)).drew W4.heap.size (some ⟨W4.heap.size, 0, none⟩) 6 [(dm : Int), dm, dm, dm, dm, 2]) := ints_laid W4 [(dm : Int), dm, dm, dm, dm, 2] (by simp)
    have CP := Lib.hid (l1Pick_any lo (w.heap.size + 1 + 1) W4.heap.size 6 6 (some ⟨W4.heap.size, 0, none⟩) [(dm : Int), dm, dm, dm, dm, 2] 30 _ Dd.out.s (by omega) HI.out (by omega) (by decide) (by decide))
    have k_0 : (W4.alloc (.cells #[.int .i64 (dm : Int), .int .i64 (dm : Int), .int .i64 (dm : Int), .int .i64 (dm : Int), .int .i64 (dm : Int), .int .i64 2] 2)).drew.cell? ⟨W3.heap.size, 0, none⟩ = some (.slice A n c) ∧ (W4.alloc (.cells #[.int .i64 (dm : Int), .int .i64 (dm : Int), .int .i64 (dm : Int), .int .i64 (dm : Int), .int .i64 (dm : Int), .int .i64 2] 2)).drew.cell? ⟨W3.heap.size, 1, none⟩ = some (.slice A' n' c') := ⟨Lad.out.cell 0, Lad.out.cell 1⟩
    have m1 : ¬ W3.heap.size = w.heap.size := by omega
    have m2 : ¬ W3.heap.size = w.heap.size + 1 := by omega
    have m5 : ¬ w.heap.size = W3.heap.size := by omega
    have m6 : ¬ w.heap.size + 1 = W3.heap.size := by omega
    clear B L2 L3 La AI HI
    go_upto_region 8 with fail
    go_region_held3 (fun w' => w'.cell? ⟨W3.heap.size, 0, none⟩ = some (.slice A n c) ∧ w'.cell? ⟨W3.heap.size, 1, none⟩ = some (.slice A' n' c'))
      (first | (simp [go_sem, k0, k1]; done) | with_reducible exact k_0 | with_reducible exact k_1 | with_reducible exact k_2 | go_keep)
      (first
        | (go_at_call 67; refine CP.out.mono ?_
           rintro e Wp ⟨x, rfl, hx, dp⟩
           obtain ⟨m, rfl, hm⟩ : ∃ m : Nat, x = (m : Int) ∧ (2 ≤ m ∧ m ≤ 3) := by
             simp only [List.mem_cons, List.not_mem_nil, or_false] at hx
             exact ⟨x.toNat, by omega, by omega⟩
           have k_1 : Wp.cell? ⟨W3.heap.size, 0, none⟩ = some (.slice A n c) ∧ Wp.cell? ⟨W3.heap.size, 1, none⟩ = some (.slice A' n' c') := ⟨(dp.lies Lad.out (by omega)).cell 0, (dp.lies Lad.out (by omega)).cell 1⟩)
        | (go_at_call 62; refine (l1Bent_any lo (w.heap.size + 1 + 1) m 31 _ dp.s (by decide) hm).mono ?_
           rintro e Wq ⟨U1, U2, q1, d1, q2, d2, us, vs, rfl, bd⟩
           have k_2 : Wq.cell? ⟨W3.heap.size, 0, none⟩ = some (.slice A n c) ∧ Wq.cell? ⟨W3.heap.size, 1, none⟩ = some (.slice A' n' c') := ⟨(bd.D.lies (dp.lies Lad.out (by omega)) (by omega)).cell 0, (bd.D.lies (dp.lies Lad.out (by omega)) (by omega)).cell 1⟩
           have L2q := bd.D.lies (dp.lies L2d.out (by omega)) (by omega)
           have L3q := bd.D.lies (dp.lies L3d.out (by omega)) (by omega)
           have r0 : Wq.cell? ⟨w.heap.size, 0, none⟩ = some (.slice none 0 0) := L2q.cell 0
           have r1 : Wq.cell? ⟨w.heap.size, 1, none⟩ = some (.slice none 0 0) := L2q.cell 1
           have r2 : Wq.cell? ⟨w.heap.size + 1, 0, none⟩ = some (.slice none 0 0) := L3q.cell 0
           have r3 : Wq.cell? ⟨w.heap.size + 1, 1, none⟩ = some (.slice none 0 0) := L3q.cell 1
           have f0 : Wq.frozen? ⟨w.heap.size, 0, none⟩ = false := L2q.thawed 0
           have f1 : Wq.frozen? ⟨w.heap.size, 1, none⟩ = false := L2q.thawed 1
           have f2 : Wq.frozen? ⟨w.heap.size + 1, 0, none⟩ = false := L3q.thawed 0
           have f3 : Wq.frozen? ⟨w.heap.size + 1, 1, none⟩ = false := L3q.thawed 1))
    have BB : Hid (Below w.heap.size w Wq) := BW.out.trans (((Dd.out.trans dp).trans bd.D).T.1 w.heap.size (fun k hk => by omega) (by omega))
    have AQ := Lib.hid ((AId.out.drew1 dp (by omega)).drew1 bd.D (by omega))
    have BQ := Lib.hid bd.box
    go_wp2
    refine bodyPost_ret (v := .tuple #[.agg #[.slice A n c, .slice A' n' c'], .agg #[.slice U1 q1 d1, .slice U2 q2 d2]]) (by simp [results, Try.results10, go_sem, r0, r1, r2, r3]) rfl ⟨A, A', U1, U2, n, c, n', c', q1, d1, q2, d2, xs, ys, us, vs, rfl, ?_, ?_, ?_⟩
    · exact ((((AQ.out.put (a := ⟨w.heap.size, 0, none⟩) (by show w.heap.size < _; omega)).put (a := ⟨w.heap.size, 1, none⟩) (by show w.heap.size < _; omega)).put (a := ⟨w.heap.size + 1, 0, none⟩) (by show w.heap.size + 1 < _; omega)).put (a := ⟨w.heap.size + 1, 1, none⟩) (by show w.heap.size + 1 < _; omega)).lower (l' := w.heap.size) (by omega)
    · exact ((((BQ.out.put (a := ⟨w.heap.size, 0, none⟩) (by show w.heap.size < _; omega)).put (a := ⟨w.heap.size, 1, none⟩) (by show w.heap.size < _; omega)).put (a := ⟨w.heap.size + 1, 0, none⟩) (by show w.heap.size + 1 < _; omega)).put (a := ⟨w.heap.size + 1, 1, none⟩) (by show w.heap.size + 1 < _; omega)).lower (l' := w.heap.size) (by omega)
    · exact (((BB.out.setCell (show w.heap.size ≤ (⟨w.heap.size, 0, none⟩ : Addr).block from Nat.le_refl _) _).setCell (show w.heap.size ≤ (⟨w.heap.size, 1, none⟩ : Addr).block from Nat.le_refl _) _).setCell (show w.heap.size ≤ (⟨w.heap.size + 1, 0, none⟩ : Addr).block from by show w.heap.size ≤ w.heap.size + 1; omega) _).setCell (show w.heap.size ≤ (⟨w.heap.size + 1, 1, none⟩ : Addr).block from by show w.heap.size ≤ w.heap.size + 1; omega) _

end Go.Proofs.Ytfpmbkfikfdmkaa
