/- The draws: points and boxes. -/
import Derived.Test.YtdkaofmlgaofgabDraw2
import Derived.Test.YtdkaofmlgaofgabUnion
import Derived.Deep.AppendLies
namespace Go.Proofs.Ytdkaofmlgaofgab
open Go.RowKit

theorem Drew1.owns {w w' : World} {lo g base n size : Nat} {M : Int} {e : TypeId} {v : Value} {xs : List Value} (h : Drew1 w w' lo g M) (ho : w.ownsRow base e size v n xs) (hg : g < base) : w'.ownsRow base e size v n xs := by
  obtain ⟨hl, h1⟩ := ho
  refine ⟨hl, ?_⟩
  rcases h1 with h1 | ⟨q, cap, cur, rfl, h2, h3, h4⟩
  · exact Or.inl h1
  · have hq : q < w.heap.size := by
      rcases Nat.lt_or_ge q w.heap.size with h' | h'
      · exact h'
      · exact absurd (h3.symm.trans (Array.getElem?_eq_none h')) (by simp)
    exact Or.inr ⟨q, cap, cur, rfl, h2, (h.T.2.2 q hq (by show q ≠ g; omega)).trans h3, h4⟩
theorem Drew1.lies {w w' : World} {lo g b : Nat} {M : Int} {t : TypeId} {cs : Array Value} (h : Drew1 w w' lo g M) (hl : Lies w b t cs) (hb : b ≠ g) : Lies w' b t cs := h.T.lies hl hb
/-- What was put behind a row of one's own, or stored in a block that is new, turns nothing else. -/
theorem Drew1.grown {w w1 w2 : World} {lo g : Nat} {M : Int} {row : Option Nat} (h : Drew1 w w1 lo g M) (hg : w1.grownBy w2 row) (hr : ∀ r, row = some r → w.heap.size ≤ r) (hgw : g < w.heap.size) : Drew1 w w2 lo g M := by
  have hi := h.s.inside
  have hs := hg.size
  have hlow : Below w.heap.size w1 w2 := ⟨hg.os, hg.tape, hg.output, hg.size, fun b hb => hg.block b (Nat.lt_of_lt_of_le hb h.T.2.1) (fun e => by have := hr b e.symm; omega)⟩
  refine ⟨h.s.low (hlow.mono (by omega)) (hg.block g hi.2 (fun e => by have := hr g e.symm; omega)) (Int.le_refl _), ⟨fun B hG hB => (h.T.1 B hG hB).trans (hlow.mono hB), Nat.le_trans h.T.2.1 hs, fun k hk hn => (hlow.block k hk).trans (h.T.2.2 k hk hn)⟩⟩
theorem Drew1.put {w w1 : World} {lo g : Nat} {M : Int} (h : Drew1 w w1 lo g M) {a : Addr} (ha : w.heap.size ≤ a.block) (hgw : g < w.heap.size) (v : Value) : Drew1 w (w1.setCell a v) lo g M := by
  have hi := h.s.inside
  have hlow : Below w.heap.size w1 (w1.setCell a v) := (Below.refl _ _).setCell ha v
  refine ⟨h.s.low (hlow.mono (by omega)) (heap_setCell_other w1 a g v (by omega)) (Int.le_refl _), ⟨fun B hG hB => (h.T.1 B hG hB).setCell (Nat.le_trans hB ha) v, Nat.le_trans h.T.2.1 (by rw [size_of_setCell]; exact Nat.le_refl _), fun k hk hn => (hlow.block k hk).trans (h.T.2.2 k hk hn)⟩⟩

set_option maxRecDepth 100000 in
set_option maxHeartbeats 3200000 in
theorem l1Point_any (lo g n : Nat) (M : Int) (w : World) (hs : Src w lo g M) (hM : M ≤ 900000) (hn : n ≤ 1000) :
    Calls Try.prog 135 #[.pointer (some ⟨g, 0, none⟩), .int .i64 n] w fun e w' => ∃ (A : Option Addr) (c : Nat) (xs : List Int), e = .returned (.slice A n c) ∧ w'.ownsRow w.heap.size 2 1 (.slice A n c) n (xs.map (Value.int .i64)) ∧ Drew1 w w' lo g (M + 5 * n) := by
  have hg := hs.inside.2
  have B := below_alloc w (.cells #[] 2)
  have D0 := Lib.hid ((Drew1.start hs).below B)
  obtain ⟨i0, hi0, hz0, hz1, hz2⟩ := info_parts_i64
  have IP := Lib.hid (And.intro hi0 (And.intro hz0 (And.intro hz1 hz2)))
  have ST : Hid ((w.alloc (.cells #[] 2)).ownsRow w.heap.size 2 1 (.slice (some ⟨w.heap.size, 0, none⟩) 0 0) 0 ([] : List Value)) := ⟨rfl, Or.inr ⟨w.heap.size, 0, #[], rfl, Nat.le_refl _, heap_alloc_new w _, Nat.le_refl _, Nat.zero_le _, rfl, rfl⟩⟩
  clear hs B hi0 hz0 hz1 hz2
  go_enter Try.func135, Try.ntmps135
  go_wp2
  go_loopw [5, 6] (fun vv i wr => ∃ (k : Nat) (v : Value) (xs : List Int), k ≤ n ∧ i = .int .i64 k ∧ v = vv ∧ Hid (wr.ownsRow w.heap.size 2 1 v k (xs.map (Value.int .i64))) ∧ Hid (Drew1 w wr lo g (M + 5 * k))) (fun _ i _ => n - (intOf i).toNat)
  case atStart => exact ⟨0, _, [], Nat.zero_le _, rfl, rfl, ST, D0.out.mono (by omega)⟩
  case round =>
    obtain ⟨k, v, xs, hk, rfl, rfl, hO, hD⟩ := hrel
    by_cases hlt : k < n
    · go_wp2_with fail
      refine (l1Coord_any lo g _ _ hD.out.s (by omega)).mono ?_
      rintro e W1 ⟨x, rfl, _, d1⟩
      have HO1 := Lib.hid ((d1.owns hO.out hg).alloc (.cells #[.int .i64 x] 2))
      have HD1 := Lib.hid ((hD.out.trans d1).below (below_alloc W1 (.cells #[.int .i64 x] 2)))
      have hsz := (hD.out.trans d1).size
      have NEWS : Hid (∀ i u, ([.int .i64 x] : List Value)[i]? = some u → (W1.alloc (.cells #[.int .i64 x] 2)).cell? ((⟨W1.heap.size, 0, none⟩ : Addr).add i) = some u) := World.news_of_block (cs := #[.int .i64 x]) (t := 2) (fr := (0, 0)) (Lies.new W1 2 #[.int .i64 x])
      clear d1 hO hD
      go_wp2_with (with_reducible refine wpList_append_lies _ rfl (.tmp 13) (.tmp 16) 41 rfl w.heap.size 2 i0 (.int .i64 0) 1 8 Try.underlying41 IP.out.1 IP.out.2.1 IP.out.2.2.1 IP.out.2.2.2 rfl (by omega) v k (xs.map (Value.int .i64)) rfl HO1.out ⟨W1.heap.size, 0, none⟩ 1 1 [.int .i64 x] rfl rfl NEWS.out ?q2 (by omega) ?q3 ?q4 ?q5 (W1.heap.size + 1) ?q6 ?_)
      case q2 => simp [Value.oneCell']
      case q3 => unfold maxLen; omega
      case q4 => omega
      case q5 => (try simp only [World.size_alloc]); omega
      try (case q6 => simp only [World.size_alloc])
      intro gg cap w1 ho hw hat hlt1
      have HO2 : Hid (w1.ownsRow w.heap.size 2 1 (.slice (some ⟨gg, 0, none⟩) (k + 1) cap) (k + 1) ((xs ++ [x]).map (Value.int .i64))) := by show World.ownsRow _ _ _ _ _ _ _; rw [List.map_append]; exact ho
      have HD2 : Hid (Drew1 w w1 lo g (M + 5 * ((k + 1 : Nat) : Int))) := ((HD1.out.grown hw (fun r e => (ownsRow_block HO1.out r e).1) hg).mono (by omega))
      clear ho hw hat hlt1 HO1 HD1 NEWS
      go_wp2
      go_roundw
      case rel => exact ⟨k + 1, _, _, by omega, by go_num, rfl, HO2, HD2⟩
      case measure => simp [intOf]; omega
    · have hkn : k = n := by omega
      subst hkn
      obtain ⟨A, c, rfl⟩ : ∃ A c, v = .slice A k c := by
        rcases hO.out.2 with ⟨e1, e2⟩ | ⟨q, cap, cur, e1, _⟩
        · subst e2; exact ⟨none, 0, e1⟩
        · exact ⟨_, _, e1⟩
      go_wp2
      go_ret
      exact ⟨A, c, xs, rfl, hO.out, hD.out⟩

end Go.Proofs.Ytdkaofmlgaofgab
