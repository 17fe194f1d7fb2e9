/- The draws: a right box. -/
import Derived.Test.YtfpmbkfikfdmkaaDraw3
namespace Go.Proofs.Ytfpmbkfikfdmkaa
open Go.RowKit

/-- Where l1Rect's loop stands. -/
structure RectW (w wr : World) (lo g : Nat) (M : Int) (kL kH : Nat) (xs ys : List Int) (vL vH : Value) : Prop where
  D : Drew1 w wr lo g M
  r : Lies wr w.heap.size 26 #[.slice none 0 0, .slice none 0 0]
  o : Lies wr (w.heap.size + 1) 26 #[vL, vH]
  L : wr.ownsRow (w.heap.size + 1 + 1) 2 1 vL kL (xs.map (Value.int .i64))
  H : wr.ownsRow (w.heap.size + 1 + 1) 2 1 vH kH (ys.map (Value.int .i64))
  d : ∀ b, vL.ownBlock = some b → vH.ownBlock ≠ some b
section
variable {w wr W w1 : World} {lo g kL kH : Nat} {M M' : Int} {xs ys : List Int} {vL vH : Value}
theorem RectW.step (h : RectW w wr lo g M kL kH xs ys vL vH) (hg : g < w.heap.size) (hd : Drew1 wr W lo g M') : RectW w W lo g M' kL kH xs ys vL vH :=
  ⟨h.D.trans hd, hd.lies h.r (by omega), hd.lies h.o (by omega), hd.owns h.L (by omega), hd.owns h.H (by omega), h.d⟩
theorem RectW.alloc (h : RectW w wr lo g M kL kH xs ys vL vH) (o : Obj) : RectW w (wr.alloc o) lo g M kL kH xs ys vL vH :=
  ⟨h.D.below (below_alloc _ _), h.r.alloc o, h.o.alloc o, h.L.alloc o, h.H.alloc o, h.d⟩
theorem RectW.mono (h : RectW w wr lo g M kL kH xs ys vL vH) (hm : M ≤ M') : RectW w wr lo g M' kL kH xs ys vL vH := ⟨h.D.mono hm, h.r, h.o, h.L, h.H, h.d⟩
theorem RectW.mid {row : Option Nat} (h : RectW w wr lo g M kL kH xs ys vL vH) (hw : wr.grownBy w1 row) (hr : row = vL.ownBlock ∨ row = vH.ownBlock) : Lies w1 (w.heap.size + 1) 26 #[vL, vH] := by
  have hb : ∀ r, row = some r → w.heap.size + 1 + 1 ≤ r := fun r e => by
    rcases hr with h' | h'
    · exact (ownsRow_block h.L r (h' ▸ e)).1
    · exact (ownsRow_block h.H r (h' ▸ e)).1
  exact (hw.block _ h.o.inside (fun e => by have := hb _ e.symm; omega)).trans h.o
theorem RectW.low {q cap : Nat} {x : Int} (h : RectW w wr lo g M kL kH xs ys vL vH) (hg : g < w.heap.size) (ho : w1.ownsRow (w.heap.size + 1 + 1) 2 1 (.slice (some ⟨q, 0, none⟩) (kL + 1) cap) (kL + 1) (xs.map (Value.int .i64) ++ [.int .i64 x])) (hw : wr.grownBy w1 vL.ownBlock) (hat : vL.ownBlock = some q ∨ q = wr.heap.size) :
    RectW w (w1.setCell ⟨w.heap.size + 1, 0, none⟩ (.slice (some ⟨q, 0, none⟩) (kL + 1) cap)) lo g M (kL + 1) kH (xs ++ [x]) ys (.slice (some ⟨q, 0, none⟩) (kL + 1) cap) vH := by
  have hbk := ownsRow_block h.L
  have hH := ownsRow_block h.H
  have nr : ∀ y, y < w.heap.size + 1 + 1 → some y ≠ vL.ownBlock := fun y hy e => by have := (hbk y e.symm).1; omega
  refine ⟨(h.D.grown hw (fun r e => by have := (hbk r e).1; omega) hg).put (by show w.heap.size ≤ w.heap.size + 1; omega) hg _, Lies.far ((hw.block _ h.r.inside (nr _ (by omega))).trans h.r) (by show w.heap.size ≠ w.heap.size + 1; omega) _, Lies.set (w := w1) ((hw.block _ h.o.inside (nr _ (by omega))).trans h.o) 0 _, ownsRow_far (by rw [List.map_append]; exact ho) (by show w.heap.size + 1 < _; omega) _, ownsRow_far (h.H.kept hw ?_) (by show w.heap.size + 1 < _; omega) _, fun b e e2 => ?_⟩
  · cases hv : vH.ownBlock with
    | none => exact Or.inl rfl
    | some b => exact Or.inr fun e => h.d b e.symm hv
  · have e' : q = b := by simpa [Value.ownBlock] using e
    subst e'
    rcases hat with hat | hat
    · exact h.d q hat e2
    · have := (hH q e2).2; omega
theorem RectW.high {q cap : Nat} {x : Int} (h : RectW w wr lo g M kL kH xs ys vL vH) (hg : g < w.heap.size) (ho : w1.ownsRow (w.heap.size + 1 + 1) 2 1 (.slice (some ⟨q, 0, none⟩) (kH + 1) cap) (kH + 1) (ys.map (Value.int .i64) ++ [.int .i64 x])) (hw : wr.grownBy w1 vH.ownBlock) (hat : vH.ownBlock = some q ∨ q = wr.heap.size) :
    RectW w (w1.setCell ⟨w.heap.size + 1, 1, none⟩ (.slice (some ⟨q, 0, none⟩) (kH + 1) cap)) lo g M kL (kH + 1) xs (ys ++ [x]) vL (.slice (some ⟨q, 0, none⟩) (kH + 1) cap) := by
  have hbk := ownsRow_block h.H
  have hL := ownsRow_block h.L
  have nr : ∀ y, y < w.heap.size + 1 + 1 → some y ≠ vH.ownBlock := fun y hy e => by have := (hbk y e.symm).1; omega
  refine ⟨(h.D.grown hw (fun r e => by have := (hbk r e).1; omega) hg).put (by show w.heap.size ≤ w.heap.size + 1; omega) hg _, Lies.far ((hw.block _ h.r.inside (nr _ (by omega))).trans h.r) (by show w.heap.size ≠ w.heap.size + 1; omega) _, Lies.set (w := w1) ((hw.block _ h.o.inside (nr _ (by omega))).trans h.o) 1 _, ownsRow_far (h.L.kept hw ?_) (by show w.heap.size + 1 < _; omega) _, ownsRow_far (by rw [List.map_append]; exact ho) (by show w.heap.size + 1 < _; omega) _, fun b e e2 => ?_⟩
  · cases hv : vL.ownBlock with
    | none => exact Or.inl rfl
    | some b => exact Or.inr fun e => h.d b hv e.symm
  · have e' : q = b := by simpa [Value.ownBlock] using e2
    subst e'
    rcases hat with hat | hat
    · exact h.d q e hat
    · have := (hL q e).2; omega
end
theorem RectW.start {w : World} {lo g : Nat} {M : Int} (h : Src w lo g M) : RectW w ((w.alloc (.cells #[.slice none 0 0, .slice none 0 0] 26)).alloc (.cells #[.slice none 0 0, .slice none 0 0] 26)) lo g M 0 0 [] [] (.slice none 0 0) (.slice none 0 0) := by
  have h2 := Lies.new (w.alloc (.cells #[.slice none 0 0, .slice none 0 0] 26)) 26 #[.slice none 0 0, .slice none 0 0]
  simp only [World.size_alloc] at h2
  exact ⟨(Drew1.start h).below ((below_alloc _ _).alloc (below_alloc _ _).size _), (Lies.new w _ _).alloc _, h2, ⟨rfl, Or.inl ⟨rfl, rfl⟩⟩, ⟨rfl, Or.inl ⟨rfl, rfl⟩⟩, fun b h => by simp [Value.ownBlock] at h⟩
theorem row_slice {w : World} {base n size : Nat} {e : TypeId} {v : Value} {xs : List Value} (h : w.ownsRow base e size v n xs) : ∃ A c, v = .slice A n c := by
  rcases h.2 with ⟨h1, h2⟩ | ⟨g, cap, cur, e1, _⟩
  · exact ⟨none, 0, by rw [h1, h2]⟩
  · exact ⟨_, _, e1⟩

/-- A box that was drawn: both rows are one's own, and no two share a block. -/
def RectD (w w' : World) (lo g n : Nat) (M : Int) (A A' : Option Addr) (c c' : Nat) (xs ys : List Int) : Prop :=
  w'.ownsRow (w.heap.size + 1 + 1) 2 1 (.slice A n c) n (xs.map (Value.int .i64)) ∧ w'.ownsRow (w.heap.size + 1 + 1) 2 1 (.slice A' n c') n (ys.map (Value.int .i64)) ∧ (∀ b, (Value.slice A n c).ownBlock = some b → (Value.slice A' n c').ownBlock ≠ some b) ∧ Drew1 w w' lo g M

set_option maxRecDepth 100000 in
set_option maxHeartbeats 6400000 in
theorem l1Rect_any (lo g n : Nat) (M : Int) (w : World) (hs : Src w lo g M) (hM : M ≤ 900000) (hn : n ≤ 1000) :
    Calls Try.prog 117 #[.pointer (some ⟨g, 0, none⟩), .int .i64 n] w fun e w' => ∃ (A A' : Option Addr) (c c' : Nat) (xs ys : List Int), e = .returned (.agg #[.slice A n c, .slice A' n c']) ∧ RectD w w' lo g n (M + 6 * n) A A' c c' xs ys := by
  have hg := hs.inside.2
  have ST := Lib.hid (RectW.start hs)
  obtain ⟨i0, hi0, hz0, hz1, hz2⟩ := info_parts_i64
  have IP := Lib.hid (And.intro hi0 (And.intro hz0 (And.intro hz1 hz2)))
  clear hs hi0 hz0 hz1 hz2
  go_enter Try.func117, Try.ntmps117
  go_wp2
  go_loopw [6] (fun i wr => ∃ (k : Nat) (vL vH : Value) (xs ys : List Int), k ≤ n ∧ i = .int .i64 k ∧ Hid (RectW w wr lo g (M + 6 * k) k k xs ys vL vH)) (fun i _ => n - (intOf i).toNat)
  case atStart => exact ⟨0, _, _, [], [], Nat.zero_le _, rfl, ST.out.mono (by omega)⟩
  case round =>
    obtain ⟨k, vL, vH, xs, ys, hk, rfl, hU⟩ := hrel
    clear ST
    by_cases hlt : k < n
    · go_wp2_with fail
      refine (l1Coord_any lo g _ _ hU.out.D.s (by omega)).mono ?_
      rintro e W1 ⟨x, rfl, ⟨x0, x1⟩, d1⟩
      have hU1 := Lib.hid ((hU.out.step hg d1).alloc (.cells #[.int .i64 0, .int .i64 1, .int .i64 3, .int .i64 8, .int .i64 30] 2))
      have hgW : g < W1.heap.size := d1.s.inside.2
      have HI := Lib.hid (ints_laid W1 [0, 1, 3, 8, 30] (by decide))
      clear hU d1
      go_wp2_with fail
      refine (l1Pick_any lo g W1.heap.size 5 _ _ [0, 1, 3, 8, 30] _ _ hU1.out.D.s (by omega) HI.out hgW (by decide) (by decide)).mono ?_
      rintro e W2 ⟨y, rfl, hy, d2⟩
      have hy2 : 0 ≤ y ∧ y ≤ 30 := by simp only [List.mem_cons, List.not_mem_nil, or_false] at hy; omega
      obtain ⟨y0, y1⟩ := hy2
      have hU2 := Lib.hid (hU1.out.step hg d2)
      clear hU1 d2 hy HI
      go_wp2_with fail
      refine (l1Min_any (x + y) 1000 _).mono ?_
      rintro e W3 ⟨rfl, rfl⟩
      have oc := hU2.out.o.cell 0
      have NEWS : Hid (∀ i u, ([.int .i64 x] : List Value)[i]? = some u → (W3.alloc (.cells #[.int .i64 x] 2)).cell? ((⟨W3.heap.size, 0, none⟩ : Addr).add i) = some u) := World.news_of_block (cs := #[.int .i64 x]) (t := 2) (fr := (0, 0)) (Lies.new W3 2 #[.int .i64 x])
      have HA := Lib.hid (hU2.out.alloc (.cells #[.int .i64 x] 2))
      have hsz := hU2.out.o.inside
      simp at oc
      clear hU2
      go_wp2_with (with_reducible refine wpList_append_lies _ rfl (.tmp 24) (.tmp 26) 24 rfl (w.heap.size + 1 + 1) 2 i0 (.int .i64 0) 1 8 Try.underlying24 IP.out.1 IP.out.2.1 IP.out.2.2.1 IP.out.2.2.2 rfl (by omega) vL k (xs.map (Value.int .i64)) rfl HA.out.L ⟨W3.heap.size, 0, none⟩ 1 1 [.int .i64 x] rfl rfl NEWS.out ?q2 (by omega) ?q3 ?q4 ?q5 (W3.heap.size + 1) ?q6 ?_)
      case q2 => simp [Value.oneCell']
      case q3 => unfold maxLen; omega
      case q4 => omega
      case q5 => (try simp only [World.size_alloc]); omega
      try (case q6 => simp only [World.size_alloc])
      intro gg cap w1 ho hw hat hlt1
      have hM1 := Lib.hid (HA.out.mid hw (Or.inl rfl))
      have hU3 := Lib.hid (HA.out.low hg ho hw (by simpa only [World.size_alloc] using hat))
      have s0 : w1.cell? ⟨w.heap.size + 1, 0, none⟩ = some vL := hM1.out.cell 0
      have s1 : w1.frozen? ⟨w.heap.size + 1, 0, none⟩ = false := hM1.out.thawed 0
      clear ho hw hat hlt1 HA NEWS oc hM1
      go_upto_region 8 with fail
      generalize hW : w1.setCell ⟨w.heap.size + 1, 0, none⟩ (.slice (some ⟨gg, 0, none⟩) (k + 1) cap) = w2 at *
      clear hW s0 s1
      have NEWS : Hid (∀ i u, ([.int .i64 (min (x + y) 1000)] : List Value)[i]? = some u → (w2.alloc (.cells #[.int .i64 (min (x + y) 1000)] 2)).cell? ((⟨w2.heap.size, 0, none⟩ : Addr).add i) = some u) := World.news_of_block (cs := #[.int .i64 (min (x + y) 1000)]) (t := 2) (fr := (0, 0)) (Lies.new w2 2 #[.int .i64 (min (x + y) 1000)])
      have oc : w2.cell? ⟨w.heap.size + 1, 1, none⟩ = some vH := hU3.out.o.cell 1
      have hsz : w.heap.size + 1 < w2.heap.size := hU3.out.o.inside
      have HA := Lib.hid (hU3.out.alloc (.cells #[.int .i64 (min (x + y) 1000)] 2))
      clear hU3
      go_wp2_with (with_reducible refine wpList_append_lies _ rfl (.tmp 30) (.tmp 32) 24 rfl (w.heap.size + 1 + 1) 2 i0 (.int .i64 0) 1 8 Try.underlying24 IP.out.1 IP.out.2.1 IP.out.2.2.1 IP.out.2.2.2 rfl (by omega) vH k (ys.map (Value.int .i64)) rfl HA.out.H ⟨w2.heap.size, 0, none⟩ 1 1 [.int .i64 (min (x + y) 1000)] rfl rfl NEWS.out ?r2 (by omega) ?r3 ?r4 ?r5 (w2.heap.size + 1) ?r6 ?_)
      case r2 => simp [Value.oneCell']
      case r3 => unfold maxLen; omega
      case r4 => omega
      case r5 => (try simp only [World.size_alloc]); omega
      try (case r6 => simp only [World.size_alloc])
      intro gh cap2 w3 ho hw hat hlt1
      have hM1 := Lib.hid (HA.out.mid hw (Or.inr rfl))
      have hU4 := Lib.hid ((HA.out.high hg ho hw (by simpa only [World.size_alloc] using hat)).mono (show _ ≤ M + 6 * ((k + 1 : Nat) : Int) by omega))
      have s0 : w3.cell? ⟨w.heap.size + 1, 1, none⟩ = some vH := hM1.out.cell 1
      have s1 : w3.frozen? ⟨w.heap.size + 1, 1, none⟩ = false := hM1.out.thawed 1
      clear ho hw hat hlt1 HA NEWS oc hM1
      go_wp2
      go_roundw
      case rel => exact ⟨k + 1, _, _, _, _, by omega, by go_num, hU4⟩
      case measure => simp [intOf]; omega
    · have hkn : k = n := by omega
      subst hkn
      obtain ⟨A1, k1, hv1⟩ := row_slice hU.out.L
      obtain ⟨A2, k2, hv2⟩ := row_slice hU.out.H
      subst hv1 hv2
      have c0 : wr.cell? ⟨w.heap.size + 1, 0, none⟩ = some (.slice A1 k k1) := hU.out.o.cell 0
      have c1 : wr.cell? ⟨w.heap.size + 1, 1, none⟩ = some (.slice A2 k k2) := hU.out.o.cell 1
      have r0 : wr.cell? ⟨w.heap.size, 0, none⟩ = some (.slice none 0 0) := hU.out.r.cell 0
      have r1 : wr.cell? ⟨w.heap.size, 1, none⟩ = some (.slice none 0 0) := hU.out.r.cell 1
      have f0 : wr.frozen? ⟨w.heap.size, 0, none⟩ = false := hU.out.r.thawed 0
      have f1 : wr.frozen? ⟨w.heap.size, 1, none⟩ = false := hU.out.r.thawed 1
      have LL := Lib.hid hU.out.L
      have HH := Lib.hid hU.out.H
      have DD := Lib.hid hU.out.D
      have EE := Lib.hid hU.out.d
      clear hU
      go_wp2
      refine bodyPost_ret (v := .agg #[.slice A1 k k1, .slice A2 k k2]) (by simp [results, Try.results117, go_sem, r0, r1]) rfl ⟨A1, A2, k1, k2, xs, ys, rfl, ?_, ?_, EE.out, ?_⟩
      · exact ownsRow_far (ownsRow_far LL.out (by show w.heap.size < _; omega) _) (by show w.heap.size < _; omega) _
      · exact ownsRow_far (ownsRow_far HH.out (by show w.heap.size < _; omega) _) (by show w.heap.size < _; omega) _
      · exact (DD.out.put (Nat.le_refl _) hg _).put (Nat.le_refl _) hg _

end Go.Proofs.Ytfpmbkfikfdmkaa
