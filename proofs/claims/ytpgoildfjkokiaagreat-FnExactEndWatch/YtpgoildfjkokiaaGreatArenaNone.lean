/- The walks of spec.l4New and spec.NewArena. -/
import Derived.Test.YtpgoildfjkokiaaGreatSpecArena2
import Derived.Test.YtpgoildfjkokiaaGreatUnion
import Derived.Test.YtpgoildfjkokiaaGreatHolder
import Derived.Test.YtpgoildfjkokiaaGreatPairLists
import Derived.Test.YtpgoildfjkokiaaGreatFreeAll
namespace Go.Proofs.YtpgoildfjkokiaaGreat
open Go.RowKit

def vacCells : List Value := [.int .i64 0, .int .i64 0, .int .i64 (-1), .slice none 0 0]
/-- k empty nodes' cells; the numbers 0 to k - 1. -/
def vacRow (k : Nat) : List Value := (List.replicate k vacCells).flatten
def upTo (k : Nat) : List Int := (List.range k).map Int.ofNat
theorem vacRow_next (k : Nat) : vacRow (k + 1) = vacRow k ++ vacCells := by
  unfold vacRow; rw [List.replicate_succ', List.flatten_append]; simp
theorem upTo_next (k : Nat) : (upTo (k + 1)).map (Value.int .i64) = (upTo k).map (Value.int .i64) ++ [.int .i64 (k : Int)] := by
  unfold upTo; rw [List.range_succ]; simp
theorem info_node4 : ∃ i, Tryz.prog.info? 42 = some i ∧ i.zero = some (.agg #[.int .i64 0, .int .i64 0, .int .i64 0, .slice none 0 0]) ∧ i.size = 4 ∧ i.bytes = 48 := by
  have h : (Tryz.prog.info? 42).map (fun i => (i.zero, i.size, i.bytes)) = some (some (.agg #[.int .i64 0, .int .i64 0, .int .i64 0, .slice none 0 0]), 4, 48) := by kernel_rfl
  obtain ⟨i, hi, h⟩ := Option.map_eq_some_iff.1 h
  simp only [Prod.mk.injEq] at h
  exact ⟨i, hi, h.1, h.2.1, h.2.2⟩

theorem ownsRow_low {w : World} {base base' : Nat} {e : TypeId} {size : Nat} {v : Value} {n : Nat} {xs : List Value} (h : w.ownsRow base e size v n xs) (hb : base' ≤ base) : w.ownsRow base' e size v n xs := by
  refine ⟨h.1, ?_⟩
  rcases h.2 with h1 | ⟨g, cap, cur, h1, h2, h3⟩
  · exact Or.inl h1
  · exact Or.inr ⟨g, cap, cur, h1, by omega, h3⟩
/-- Where l4New's loop stands. -/
structure NewA (w wr : World) (d : Int) (kN kF : Nat) (vN vF : Value) : Prop where
  b : Below w.heap.size w wr
  r : Lies wr w.heap.size 26 #[.int .i64 0, .slice none 0 0, .slice none 0 0, .slice none 0 0]
  o : Lies wr (w.heap.size + 1) 26 #[.int .i64 d, vN, vF, .slice none 0 0]
  N : wr.ownsRow (w.heap.size + 1 + 1) 42 4 vN kN (vacRow kN)
  F : wr.ownsRow (w.heap.size + 1 + 1) 2 1 vF kF ((upTo kF).map (Value.int .i64))
  d : vN.ownBlock = none ∨ vN.ownBlock ≠ vF.ownBlock
section
variable {w wr W w1 : World} {d : Int} {kN kF g cap : Nat} {vN vF : Value}
theorem NewA.drew (h : NewA w wr d kN kF vN vF) : NewA w wr.drew d kN kF vN vF := ⟨h.b.drew, h.r, h.o, h.N.drew, h.F.drew, h.d⟩
theorem NewA.alloc (h : NewA w wr d kN kF vN vF) (o : Obj) : NewA w (wr.alloc o) d kN kF vN vF := ⟨h.b.alloc h.b.size o, h.r.alloc o, h.o.alloc o, h.N.alloc o, h.F.alloc o, h.d⟩
theorem NewA.call (h : NewA w wr d kN kF vN vF) (hb : Below wr.heap.size wr W) : NewA w W d kN kF vN vF := ⟨h.b.trans (hb.mono h.b.size), h.r.kept hb h.r.inside, h.o.kept hb h.o.inside, ownsRow_below h.N hb, ownsRow_below h.F hb, h.d⟩
theorem NewA.node (h : NewA w wr d kN kF vN vF) (ho : w1.ownsRow (w.heap.size + 1 + 1) 42 4 (.slice (some ⟨g, 0, none⟩) (kN + 1) cap) (kN + 1) (vacRow kN ++ vacCells)) (hg : wr.grownBy w1 vN.ownBlock) (hat : vN.ownBlock = some g ∨ g = wr.heap.size) :
    NewA w (w1.setCell ⟨w.heap.size + 1, 1, none⟩ (.slice (some ⟨g, 0, none⟩) (kN + 1) cap)) d (kN + 1) kF (.slice (some ⟨g, 0, none⟩) (kN + 1) cap) vF := by
  have hb := ownsRow_block h.N
  have nr : ∀ x, x < w.heap.size + 1 + 1 → some x ≠ vN.ownBlock := fun x hx e => by have := (hb x e.symm).1; omega
  have hF1 : w1.ownsRow (w.heap.size + 1 + 1) 2 1 vF kF ((upTo kF).map (Value.int .i64)) := h.F.kept hg (by
    rcases h.d with h' | h'
    · rw [h']; cases vF.ownBlock <;> simp
    · exact Or.inr fun e => h' e.symm)
  have lr : Lies w1 w.heap.size 26 _ := (hg.block _ h.r.inside (nr _ (by omega))).trans h.r
  have lo' : Lies w1 (w.heap.size + 1) 26 _ := (hg.block _ h.o.inside (nr _ (by omega))).trans h.o
  refine ⟨(below_grown h.b hg (fun r e => by have := (hb r e).1; omega) h.b.size).setCell (by show w.heap.size ≤ w.heap.size + 1; omega) _, lr.far (by show w.heap.size ≠ w.heap.size + 1; omega) _, lo'.set 1 _, ownsRow_far (by rw [vacRow_next]; exact ho) (by show w.heap.size + 1 < _; omega) _, ownsRow_far hF1 (by show w.heap.size + 1 < _; omega) _, Or.inr ?_⟩
  show some g ≠ vF.ownBlock
  intro e
  have hg2 := ownsRow_block h.F g e.symm
  rcases hat with hat | hat
  · rcases h.d with h' | h'
    · rw [h'] at hat; cases hat
    · exact h' (hat.trans e)
  · omega
theorem NewA.free (h : NewA w wr d kN kF vN vF) (ho : w1.ownsRow (w.heap.size + 1 + 1) 2 1 (.slice (some ⟨g, 0, none⟩) (kF + 1) cap) (kF + 1) ((upTo kF).map (Value.int .i64) ++ [.int .i64 (kF : Int)])) (hg : wr.grownBy w1 vF.ownBlock) (hat : vF.ownBlock = some g ∨ g = wr.heap.size) :
    NewA w (w1.setCell ⟨w.heap.size + 1, 2, none⟩ (.slice (some ⟨g, 0, none⟩) (kF + 1) cap)) d kN (kF + 1) vN (.slice (some ⟨g, 0, none⟩) (kF + 1) cap) := by
  have hb := ownsRow_block h.F
  have nr : ∀ x, x < w.heap.size + 1 + 1 → some x ≠ vF.ownBlock := fun x hx e => by have := (hb x e.symm).1; omega
  have hN1 : w1.ownsRow (w.heap.size + 1 + 1) 42 4 vN kN (vacRow kN) := h.N.kept hg h.d
  have lr : Lies w1 w.heap.size 26 _ := (hg.block _ h.r.inside (nr _ (by omega))).trans h.r
  have lo' : Lies w1 (w.heap.size + 1) 26 _ := (hg.block _ h.o.inside (nr _ (by omega))).trans h.o
  refine ⟨(below_grown h.b hg (fun r e => by have := (hb r e).1; omega) h.b.size).setCell (by show w.heap.size ≤ w.heap.size + 1; omega) _, lr.far (by show w.heap.size ≠ w.heap.size + 1; omega) _, lo'.set 2 _, ownsRow_far hN1 (by show w.heap.size + 1 < _; omega) _, ownsRow_far (by rw [upTo_next]; exact ho) (by show w.heap.size + 1 < _; omega) _, ?_⟩
  show vN.ownBlock = none ∨ vN.ownBlock ≠ some g
  rcases hv : vN.ownBlock with _ | r
  · exact Or.inl rfl
  · refine Or.inr fun e => ?_
    injection e with e
    subst e
    have hg2 := ownsRow_block h.N r hv
    rcases hat with hat | hat
    · rcases h.d with h' | h'
      · rw [h'] at hv; cases hv
      · exact h' (hv.trans hat.symm)
    · omega
theorem NewA.mid {row : Option Nat} (h : NewA w wr d kN kF vN vF) (hg : wr.grownBy w1 row) (hr : row = vN.ownBlock ∨ row = vF.ownBlock) : Lies w1 (w.heap.size + 1) 26 #[.int .i64 d, vN, vF, .slice none 0 0] := by
  have hb : ∀ r, row = some r → w.heap.size + 1 + 1 ≤ r := fun r e => by
    rcases hr with h' | h'
    · exact (ownsRow_block h.N r (h' ▸ e)).1
    · exact (ownsRow_block h.F r (h' ▸ e)).1
  exact (hg.block _ h.o.inside (fun e => by have := hb _ e.symm; omega)).trans h.o
end

theorem NewA.start (w : World) (d : Int) : NewA w ((w.alloc (.cells #[.int .i64 0, .slice none 0 0, .slice none 0 0, .slice none 0 0] 26)).alloc (.cells #[.int .i64 d, .slice none 0 0, .slice none 0 0, .slice none 0 0] 26)) d 0 0 (.slice none 0 0) (.slice none 0 0) := by
  have h2 := Lies.new (w.alloc (.cells #[.int .i64 0, .slice none 0 0, .slice none 0 0, .slice none 0 0] 26)) 26 #[.int .i64 d, .slice none 0 0, .slice none 0 0, .slice none 0 0]
  simp only [World.size_alloc] at h2
  exact ⟨(below_alloc _ _).alloc (below_alloc _ _).size _, (Lies.new w _ _).alloc _, h2, ⟨rfl, Or.inl ⟨rfl, rfl⟩⟩, ⟨rfl, Or.inl ⟨rfl, rfl⟩⟩, Or.inl rfl⟩

set_option maxRecDepth 100000 in
set_option maxHeartbeats 6400000 in
theorem l4New_any (d : Int) (n : Nat) (w : World) (hn : n ≤ 40) :
    Calls Tryz.prog 71 #[.int .i64 d, .int .i64 (n : Int)] w fun e w' => ∃ vN vF, e = .returned (.agg #[.int .i64 d, vN, vF, .slice none 0 0]) ∧ w'.ownsRow w.heap.size 42 4 vN n (vacRow n) ∧ w'.ownsRow w.heap.size 2 1 vF n ((upTo n).map (Value.int .i64)) ∧ Below w.heap.size w w' := by
  obtain ⟨i0, hi0, hz0, hz1, hz2⟩ := info_node4
  have IP := Lib.hid (And.intro hi0 (And.intro hz0 (And.intro hz1 hz2)))
  obtain ⟨j0, hj0, hy0, hy1, hy2⟩ := info_parts_i64
  have JP := Lib.hid (And.intro hj0 (And.intro hy0 (And.intro hy1 hy2)))
  clear hi0 hz0 hz1 hz2 hj0 hy0 hy1 hy2
  go_enter Tryz.func71, Tryz.ntmps71
  go_wp2
  go_loopw [6] (fun i wr => ∃ (k : Nat) (vN vF : Value), k ≤ n ∧ i = .int .i64 k ∧ Hid (NewA w wr d k k vN vF)) (fun i _ => n - (intOf i).toNat)
  case atStart => exact ⟨0, .slice none 0 0, .slice none 0 0, Nat.zero_le _, rfl, NewA.start w d⟩
  case round =>
    obtain ⟨k, vN, vF, hk, rfl, hU⟩ := hrel
    by_cases hlt : k < n
    · have hlt' : (k : Int) < (n : Int) := by omega
      have oc1 : wr.cell? ⟨w.heap.size + 1, 1, none⟩ = some vN := hU.out.o.cell 1
      have hsz : w.heap.size + 1 + 1 ≤ wr.heap.size := hU.out.o.inside
      go_upto_region 5 with fail
      go_cut [6] (fun s6 wx => s6 = .int .i64 k ∧ ∃ vM, Hid (NewA w wx d (k + 1) k vM vF))
      case first =>
        go_region_law
          (first
            | (apply step_append_lies (s := .tmp 15) (x := .tmp 17) (t := 22) (base := w.heap.size + 1 + 1) (e := 42) (i := i0) (z := .agg #[.int .i64 0, .int .i64 0, .int .i64 0, .slice none 0 0]) (size := 4) (bytes := 48) (v := vN) (n := k) (xs := vacRow k) (ad := ⟨W1.heap.size, 0, none⟩) (m := 1) (c := 1) (news := vacCells) (H := W1.heap.size + 1)
               case hgd => rfl
               case ho => rfl
               case ht => exact Tryz.underlying22
               case hi => exact IP.out.1
               case hz => exact IP.out.2.1
               case hsize => exact IP.out.2.2.1
               case hby => exact IP.out.2.2.2
               case hzs => rfl
               case hsz => omega
               case hs => rfl
               case hown => with_reducible (repeat (first | exact hU1.out.N | refine World.ownsRow.drew ?_ | refine World.ownsRow.alloc ?_ _))
               case hx => rfl
               case hl => rfl
               case hnews => exact World.news_of_block (cs := #[.int .i64 0, .int .i64 0, .int .i64 (-1), .slice none 0 0]) (t := 42) (fr := (0, 0)) (by (with_reducible (repeat (refine Lies.drew ?_))); exact Lies.laid rfl)
               case h1 => simp [Value.oneCell', vacCells]
               case hm => omega
               case h63 => unfold maxLen; omega
               case hbytes => omega
               case hbase => simp only [size_of_drew, World.size_alloc]; omega
               case hH => simp only [size_of_drew, World.size_alloc]
               intro gg cap w1 hown1 hgrow hat hlt1
               have hS1 : Lies w1 (w.heap.size + 1) 26 #[.int .i64 d, vN, vF, .slice none 0 0] := by
                 refine NewA.mid (kN := k) (kF := k) ?_ hgrow (Or.inl rfl)
                 with_reducible (repeat (first | exact hU1.out | refine NewA.drew ?_ | refine NewA.alloc ?_ _))
               have hS2 : Hid (NewA w (w1.setCell ⟨w.heap.size + 1, 1, none⟩ (.slice (some ⟨gg, 0, none⟩) (k + 1) cap)) d (k + 1) k (.slice (some ⟨gg, 0, none⟩) (k + 1) cap) vF) := by
                 refine NewA.node ?_ hown1 hgrow (hat.imp id fun h => h.trans ?_)
                 · with_reducible (repeat (first | exact hU1.out | refine NewA.drew ?_ | refine NewA.alloc ?_ _))
                 · simp only [size_of_drew, World.size_alloc]
               have s0 : w1.cell? ⟨w.heap.size + 1, 1, none⟩ = some vN := hS1.cell 1
               have s1 : w1.frozen? ⟨w.heap.size + 1, 1, none⟩ = false := hS1.thawed 1)
            | (go_simp; go_at_call 73; refine (l4Empty_any _).mono ?_
               rintro e W1 ⟨rfl, b1d⟩
               have b1 := below_drawn b1d
               have hU1 := Lib.hid (hU.out.call b1)
               have l1 : W1.cell? ⟨w.heap.size + 1, 1, none⟩ = some vN := hU1.out.o.cell 1
               have hsz1 : w.heap.size + 1 < W1.heap.size := hU1.out.o.inside
               have ne1 : ¬ w.heap.size + 1 = W1.heap.size := by omega
               have ne2 : ¬ W1.heap.size = w.heap.size + 1 := by omega
               clear b1 b1d
               dsimp only))
        all_goals
          go_wp2_with fail
          go_meet
          exact ⟨rfl, _, hS2⟩
      case' rest =>
        obtain ⟨rfl, vM, hN⟩ := hcut
        clear hU oc1 hsz
        have oc2 : wc.cell? ⟨w.heap.size + 1, 2, none⟩ = some vF := hN.out.o.cell 2
        have hsz : w.heap.size + 1 + 1 ≤ wc.heap.size := hN.out.o.inside
        have HS3 := Lib.hid ((hN.out.alloc (.cells #[.int .i64 (k : Int)] 2)).F)
        have NEWS : Hid (∀ i u, ([.int .i64 (k : Int)] : List Value)[i]? = some u → (wc.alloc (.cells #[.int .i64 (k : Int)] 2)).cell? ((⟨wc.heap.size, 0, none⟩ : Addr).add i) = some u) := World.news_of_block (cs := #[.int .i64 (k : Int)]) (t := 2) (fr := (0, 0)) (Lies.new wc 2 #[.int .i64 (k : Int)])
        go_wp2_with (with_reducible refine wpList_append_lies _ rfl (.tmp 21) (.tmp 23) 23 rfl (w.heap.size + 1 + 1) 2 j0 (.int .i64 0) 1 8 Tryz.underlying23 JP.out.1 JP.out.2.1 JP.out.2.2.1 JP.out.2.2.2 rfl (by omega) vF k ((upTo k).map (Value.int .i64)) rfl HS3.out ⟨wc.heap.size, 0, none⟩ 1 1 [.int .i64 (k : Int)] rfl rfl NEWS.out ?q2 (by omega) ?q3 ?q4 ?q5 (wc.heap.size + 1) ?q6 ?_)
        case q2 => simp [Value.oneCell']
        case q3 => unfold maxLen; omega
        case q4 => omega
        case q5 => simp only [World.size_alloc]; omega
        case q6 => simp only [World.size_alloc]
        intro gg cap w1 ho hw hat hlt1
        have hM := Lib.hid ((hN.out.alloc (.cells #[.int .i64 (k : Int)] 2)).mid hw (Or.inr rfl))
        have hS2 := Lib.hid ((hN.out.alloc (.cells #[.int .i64 (k : Int)] 2)).free ho hw (by simpa only [World.size_alloc] using hat))
        have s0 : w1.cell? ⟨w.heap.size + 1, 2, none⟩ = some vF := hM.out.cell 2
        have s1 : w1.frozen? ⟨w.heap.size + 1, 2, none⟩ = false := hM.out.thawed 2
        clear ho hw hat hlt1 HS3 NEWS oc2 hM hN
        go_wp2
        go_roundw
        case rel => exact ⟨k + 1, _, _, by omega, by go_num, hS2⟩
        case measure => simp [intOf]; omega
    · have hkn : k = n := by omega
      subst hkn
      have c0 : wr.cell? ⟨w.heap.size + 1, 0, none⟩ = some (.int .i64 d) := hU.out.o.cell 0
      have c1 : wr.cell? ⟨w.heap.size + 1, 1, none⟩ = some vN := hU.out.o.cell 1
      have c2 : wr.cell? ⟨w.heap.size + 1, 2, none⟩ = some vF := hU.out.o.cell 2
      have c3 : wr.cell? ⟨w.heap.size + 1, 3, none⟩ = some (.slice none 0 0) := hU.out.o.cell 3
      have r0 : wr.cell? ⟨w.heap.size, 0, none⟩ = some (.int .i64 0) := hU.out.r.cell 0
      have r1 : wr.cell? ⟨w.heap.size, 1, none⟩ = some (.slice none 0 0) := hU.out.r.cell 1
      have r2 : wr.cell? ⟨w.heap.size, 2, none⟩ = some (.slice none 0 0) := hU.out.r.cell 2
      have r3 : wr.cell? ⟨w.heap.size, 3, none⟩ = some (.slice none 0 0) := hU.out.r.cell 3
      have f0 : wr.frozen? ⟨w.heap.size, 0, none⟩ = false := hU.out.r.thawed 0
      have f1 : wr.frozen? ⟨w.heap.size, 1, none⟩ = false := hU.out.r.thawed 1
      have f2 : wr.frozen? ⟨w.heap.size, 2, none⟩ = false := hU.out.r.thawed 2
      have f3 : wr.frozen? ⟨w.heap.size, 3, none⟩ = false := hU.out.r.thawed 3
      obtain ⟨A1, k1, hv1⟩ : ∃ A c, vN = .slice A k c := by
        rcases hU.out.N.2 with ⟨e, e2⟩ | ⟨g, cap, cur, e, _⟩
        · subst e2; exact ⟨none, 0, e⟩
        · exact ⟨_, _, e⟩
      obtain ⟨A2, k2, hv2⟩ : ∃ A c, vF = .slice A k c := by
        rcases hU.out.F.2 with ⟨e, e2⟩ | ⟨g, cap, cur, e, _⟩
        · subst e2; exact ⟨none, 0, e⟩
        · exact ⟨_, _, e⟩
      subst hv1 hv2
      go_wp2
      refine bodyPost_ret (v := .agg #[.int .i64 d, .slice A1 k k1, .slice A2 k k2, .slice none 0 0]) (by simp [results, Tryz.results71, go_sem, r0, r1, r2, r3]) rfl ⟨.slice A1 k k1, .slice A2 k k2, rfl, ?_, ?_, ?_⟩
      · exact ownsRow_low ((((ownsRow_far2 (ownsRow_far2 (ownsRow_far2 (ownsRow_far2 hU.out.N (by show w.heap.size < _; omega) _) (by show w.heap.size < _; omega) _) (by show w.heap.size < _; omega) _) (by show w.heap.size < _; omega) _)))) (by omega)
      · exact ownsRow_low ((((ownsRow_far2 (ownsRow_far2 (ownsRow_far2 (ownsRow_far2 hU.out.F (by show w.heap.size < _; omega) _) (by show w.heap.size < _; omega) _) (by show w.heap.size < _; omega) _) (by show w.heap.size < _; omega) _)))) (by omega)
      · with_reducible (repeat (first | exact hU.out.b | refine Below.setCell ?_ ?_ _))
        all_goals (show w.heap.size ≤ w.heap.size; exact Nat.le_refl _)

/-- The answer of NewArena: with a code all else is zero. -/
def NewPost (d : Int) (n : Nat) (cd : Int) (w : World) (e : Ending) (w' : World) : Prop :=
  Below w.heap.size w w' ∧ ((cd ≠ 0 ∧ e = .returned (.agg #[.int .i64 cd, .int .i64 0, .slice none 0 0, .slice none 0 0, .slice none 0 0, .int .i64 0])) ∨
    (cd = 0 ∧ ∃ A1 c1 A2 c2, e = .returned (.agg #[.int .i64 0, .int .i64 d, .slice A1 n c1, .slice A2 n c2, .slice none 0 0, .int .i64 0]) ∧ w'.ownsRow w.heap.size 42 4 (.slice A1 n c1) n (vacRow n) ∧ w'.ownsRow w.heap.size 2 1 (.slice A2 n c2) n ((upTo n).map (Value.int .i64))))
def newF (d r : Int) : Int := if 2 ≤ d ∧ d ≤ 3 then (if 4 ≤ r ∧ r ≤ 40 then 0 else 2) else 3

set_option maxHeartbeats 1600000 in
theorem specNewArena_any (d r : Int) (w : World) :
    Calls Tryz.prog 32 #[.int .i64 d, .int .i64 r] w (NewPost d r.toNat (newF d r) w) := by
  have B := Lib.hid (below_alloc w (.cells #[.int .i64 0, .int .i64 0, .slice none 0 0, .slice none 0 0, .slice none 0 0, .int .i64 0] 53))
  have L_r := Lib.hid (Lies.new w 53 #[.int .i64 0, .int .i64 0, .slice none 0 0, .slice none 0 0, .slice none 0 0, .int .i64 0])
  by_cases hd : 2 ≤ d ∧ d ≤ 3
  rotate_left
  · have HF : Hid (newF d r = 3) := by show newF _ _ = _; unfold newF; rw [if_neg hd]
    go_enter Tryz.func32, Tryz.ntmps32
    go_wp2_with fail
    refine (l1In_no _ _ _ _ hd).mono ?_
    rintro e w' ⟨rfl, rfl⟩
    go_wp2
    refine bodyPost_ret (v := .agg #[.int .i64 3, .int .i64 0, .slice none 0 0, .slice none 0 0, .slice none 0 0, .int .i64 0]) (by simp [results, Tryz.results32, go_sem]) rfl ⟨?_, Or.inl ⟨by rw [HF.out]; decide, by rw [HF.out]⟩⟩
    exact below_alloc _ _
  by_cases hn : 4 ≤ r ∧ r ≤ 40
  rotate_left
  · have HF : Hid (newF d r = 2) := by show newF _ _ = _; unfold newF; rw [if_pos hd, if_neg hn]
    go_enter Tryz.func32, Tryz.ntmps32
    go_wp2_with fail
    refine (l1In_yes _ _ _ _ hd.1 hd.2).mono ?_
    rintro e w' ⟨rfl, rfl⟩
    go_wp2_with fail
    refine (l1In_no _ _ _ _ hn).mono ?_
    rintro e w' ⟨rfl, rfl⟩
    go_wp2
    refine bodyPost_ret (v := .agg #[.int .i64 2, .int .i64 0, .slice none 0 0, .slice none 0 0, .slice none 0 0, .int .i64 0]) (by simp [results, Tryz.results32, go_sem]) rfl ⟨?_, Or.inl ⟨by rw [HF.out]; decide, by rw [HF.out]⟩⟩
    exact below_alloc _ _
  have HF : Hid (newF d r = 0) := by show newF _ _ = _; unfold newF; rw [if_pos hd, if_pos hn]
  obtain ⟨n, rfl⟩ := Int.eq_ofNat_of_zero_le (show 0 ≤ r by omega)
  rw [Int.toNat_natCast]
  go_enter Tryz.func32, Tryz.ntmps32
  go_wp2_with fail
  refine (l1In_yes _ _ _ _ hd.1 hd.2).mono ?_
  rintro e w' ⟨rfl, rfl⟩
  go_wp2_with fail
  refine (l1In_yes _ _ _ _ hn.1 hn.2).mono ?_
  rintro e w' ⟨rfl, rfl⟩
  go_wp2_with fail
  refine (l4New_any d n _ (by omega)).mono ?_
  rintro e W1 ⟨vN, vF, rfl, o1, o2, b1⟩
  simp only [World.size_alloc] at o1 o2
  replace L_r := Lib.hid (L_r.out.kept b1 L_r.out.inside)
  replace B := Lib.hid (B.out.trans (b1.mono B.out.size))
  obtain ⟨A1, k1, rfl⟩ : ∃ A c, vN = .slice A n c := by
    rcases o1.2 with ⟨e, e2⟩ | ⟨g, cap, cur, e, _⟩
    · subst e2; exact ⟨none, 0, e⟩
    · exact ⟨_, _, e⟩
  obtain ⟨A2, k2, rfl⟩ : ∃ A c, vF = .slice A n c := by
    rcases o2.2 with ⟨e, e2⟩ | ⟨g, cap, cur, e, _⟩
    · subst e2; exact ⟨none, 0, e⟩
    · exact ⟨_, _, e⟩
  have O1 := Lib.hid o1
  have O2 := Lib.hid o2
  clear b1 o1 o2
  have z0 : W1.cell? ⟨w.heap.size, 0, none⟩ = some (.int .i64 0) := L_r.out.cell 0
  have y0 : W1.frozen? ⟨w.heap.size, 0, none⟩ = false := L_r.out.thawed 0
  have z1 : W1.cell? ⟨w.heap.size, 1, none⟩ = some (.int .i64 0) := L_r.out.cell 1
  have y1 : W1.frozen? ⟨w.heap.size, 1, none⟩ = false := L_r.out.thawed 1
  have z2 : W1.cell? ⟨w.heap.size, 2, none⟩ = some (.slice none 0 0) := L_r.out.cell 2
  have y2 : W1.frozen? ⟨w.heap.size, 2, none⟩ = false := L_r.out.thawed 2
  have z3 : W1.cell? ⟨w.heap.size, 3, none⟩ = some (.slice none 0 0) := L_r.out.cell 3
  have y3 : W1.frozen? ⟨w.heap.size, 3, none⟩ = false := L_r.out.thawed 3
  have z4 : W1.cell? ⟨w.heap.size, 4, none⟩ = some (.slice none 0 0) := L_r.out.cell 4
  have y4 : W1.frozen? ⟨w.heap.size, 4, none⟩ = false := L_r.out.thawed 4
  have z5 : W1.cell? ⟨w.heap.size, 5, none⟩ = some (.int .i64 0) := L_r.out.cell 5
  have y5 : W1.frozen? ⟨w.heap.size, 5, none⟩ = false := L_r.out.thawed 5
  go_wp2
  refine bodyPost_ret (v := .agg #[.int .i64 0, .int .i64 d, .slice A1 n k1, .slice A2 n k2, .slice none 0 0, .int .i64 0]) (by simp [results, Tryz.results32, go_sem, z0, z1, z2, z3, z4, z5]) rfl ⟨?_, Or.inr ⟨HF.out, A1, k1, A2, k2, rfl, ?_, ?_⟩⟩
  · with_reducible (repeat (first | exact B.out | refine Below.setCell ?_ ?_ _))
    all_goals (show w.heap.size ≤ w.heap.size; exact Nat.le_refl _)
  · refine ownsRow_low (base := w.heap.size + 1) ?_ (by omega)
    with_reducible (repeat (first | exact O1.out | refine ownsRow_far2 ?_ ?_ _))
    all_goals (show w.heap.size < w.heap.size + 1; omega)
  · refine ownsRow_low (base := w.heap.size + 1) ?_ (by omega)
    with_reducible (repeat (first | exact O2.out | refine ownsRow_far2 ?_ ?_ _))
    all_goals (show w.heap.size < w.heap.size + 1; omega)

end Go.Proofs.YtpgoildfjkokiaaGreat

/- The walk of impl.ground's arena, where nothing is retired. -/
namespace Go.Proofs.YtpgoildfjkokiaaGreat
open Go.RowKit

/-- The free ones among the places, from i on. -/
def freeL : Nat → List LV → List Int
  | _, [] => []
  | i, p :: t => if p.fr then (i : Int) :: freeL (i + 1) t else freeL (i + 1) t
theorem freeL_next : ∀ {ps : List LV} {i k : Nat} {p : LV}, ps[k]? = some p → freeL i (ps.take (k + 1)) = freeL i (ps.take k) ++ (if p.fr then [((i + k : Nat) : Int)] else [])
  | [], i, k, p, h => by simp at h
  | a :: t, i, 0, p, h => by simp at h; subst h; simp only [List.take_succ_cons, List.take_zero, freeL, Nat.add_zero]; split <;> rfl
  | a :: t, i, k + 1, p, h => by
    have ih := freeL_next (ps := t) (i := i + 1) (k := k) (p := p) (by simpa using h)
    simp only [List.take_succ_cons, freeL]
    rw [ih, show i + 1 + k = i + (k + 1) by omega]
    split <;> simp

/-- Where arena's first loop stands. -/
structure ArW (w wr : World) (d : Int) (k kf : Nat) (vN vF : Value) (qs : List NV) (fs : List Int) : Prop where
  b : Below w.heap.size w wr
  r : Lies wr w.heap.size 26 #[.int .i64 0, .slice none 0 0, .slice none 0 0, .slice none 0 0]
  o : Lies wr (w.heap.size + 1) 26 #[.int .i64 d, vN, vF, .slice none 0 0]
  N : NodesOut wr (w.heap.size + 1 + 1) vN k qs
  F : wr.ownsRow (w.heap.size + 1 + 1) 2 1 vF kf (fs.map (Value.int .i64))
  d : ∀ b, vF.ownBlock = some b → vN.ownBlock ≠ some b ∧ b ∉ nodesB qs
section
variable {w wr W w1 : World} {d : Int} {k kf g cap : Nat} {vN vF : Value} {qs : List NV} {fs : List Int}
theorem ArW.drew (h : ArW w wr d k kf vN vF qs fs) : ArW w wr.drew d k kf vN vF qs fs := ⟨h.b.drew, h.r, h.o, h.N.others (fun _ _ => rfl) (fun _ _ => rfl), h.F.drew, h.d⟩
theorem ArW.call (h : ArW w wr d k kf vN vF qs fs) (hb : Below wr.heap.size wr W) : ArW w W d k kf vN vF qs fs := ⟨h.b.trans (hb.mono h.b.size), h.r.kept hb h.r.inside, h.o.kept hb h.o.inside, h.N.kept hb, ownsRow_below h.F hb, h.d⟩
theorem ArW.alloc (h : ArW w wr d k kf vN vF qs fs) (o : Obj) : ArW w (wr.alloc o) d k kf vN vF qs fs := h.call (below_alloc wr o)
theorem ArW.node {q : NV} (h : ArW w wr d k kf vN vF qs fs) (hb : Below wr.heap.size wr W) (hq : EntriesRes W wr.heap.size q.A1 q.n1 q.c1 q.es)
    (ho : w1.ownsRow (w.heap.size + 1 + 1) 42 4 (.slice (some ⟨g, 0, none⟩) (k + 1) cap) (k + 1) (qs.flatMap NV.cells ++ NV.cells q)) (hw : W.grownBy w1 vN.ownBlock) (hat : vN.ownBlock = some g ∨ W.heap.size ≤ g) :
    ArW w (w1.setCell ⟨w.heap.size + 1, 1, none⟩ (.slice (some ⟨g, 0, none⟩) (k + 1) cap)) d (k + 1) kf (.slice (some ⟨g, 0, none⟩) (k + 1) cap) vF (qs ++ [q]) fs := by
  have h' := h.call hb
  have hlo : w.heap.size + 1 + 1 ≤ wr.heap.size := h.o.inside
  have hbk := ownsRow_block2 h'.N.S
  have hF := ownsRow_block2 h.F
  have nr : ∀ x, x < w.heap.size + 1 + 1 → some x ≠ vN.ownBlock := fun x hx e => by have := (hbk x e.symm).1; omega
  have N1 := h.N.put (q := q) hb hq hlo ho hw hat
  refine ⟨(below_grown2 h'.b hw (fun r e => by have := (hbk r e).1; omega) h'.b.size).setCell (by show w.heap.size ≤ w.heap.size + 1; omega) _, Lies.far ((hw.block _ h'.r.inside (nr _ (by omega))).trans h'.r) (by show w.heap.size ≠ w.heap.size + 1; omega) _, Lies.set (w := w1) ((hw.block _ h'.o.inside (nr _ (by omega))).trans h'.o) 1 _, N1.far (by show w.heap.size + 1 < _; omega) _, ownsRow_far2 (h'.F.kept hw ?_) (by show w.heap.size + 1 < _; omega) _, fun b e => ⟨fun e2 => ?_, fun hm => ?_⟩⟩
  · cases hv : vF.ownBlock with
    | none => exact Or.inl rfl
    | some b => exact Or.inr fun e => (h.d b hv).1 e.symm
  · have e2' : g = b := by simpa [Value.ownBlock] using e2
    subst e2'
    rcases hat with hat | hat
    · exact (h.d g e).1 hat
    · have := (hF g e).2; have := hb.size; omega
  · have nb : nodesB (qs ++ [q]) = nodesB qs ++ nodeB q := by simp [nodesB]
    rw [nb] at hm
    rcases List.mem_append.1 hm with hm | hm
    · exact (h.d b e).2 hm
    · have := (hq.inB b hm).1; have := (hF b e).2; omega
theorem ArW.free {x : Int} (h : ArW w wr d k kf vN vF qs fs) (ho : w1.ownsRow (w.heap.size + 1 + 1) 2 1 (.slice (some ⟨g, 0, none⟩) (kf + 1) cap) (kf + 1) (fs.map (Value.int .i64) ++ [.int .i64 x])) (hw : wr.grownBy w1 vF.ownBlock) (hat : vF.ownBlock = some g ∨ g = wr.heap.size) :
    ArW w (w1.setCell ⟨w.heap.size + 1, 2, none⟩ (.slice (some ⟨g, 0, none⟩) (kf + 1) cap)) d k (kf + 1) vN (.slice (some ⟨g, 0, none⟩) (kf + 1) cap) qs (fs ++ [x]) := by
  have hbk := ownsRow_block2 h.F
  have nr : ∀ y, y < w.heap.size + 1 + 1 → some y ≠ vF.ownBlock := fun y hy e => by have := (hbk y e.symm).1; omega
  have hN := ownsRow_block2 h.N.S
  have hB := nodesB_in h.N
  have N1 : NodesOut w1 (w.heap.size + 1 + 1) vN k qs := h.N.others (fun b e => hw.block b (hN b e).2 (fun e2 => (h.d b e2.symm).1 e)) (fun b hb => hw.block b (hB b hb).2 (fun e2 => (h.d b e2.symm).2 hb))
  refine ⟨(below_grown2 h.b hw (fun r e => by have := (hbk r e).1; omega) h.b.size).setCell (by show w.heap.size ≤ w.heap.size + 1; omega) _, Lies.far ((hw.block _ h.r.inside (nr _ (by omega))).trans h.r) (by show w.heap.size ≠ w.heap.size + 1; omega) _, Lies.set (w := w1) ((hw.block _ h.o.inside (nr _ (by omega))).trans h.o) 2 _, N1.far (by show w.heap.size + 1 < _; omega) _, ownsRow_far2 (by rw [List.map_append]; exact ho) (by show w.heap.size + 1 < _; omega) _, fun b e => ?_⟩
  have e2' : g = b := by simpa [Value.ownBlock] using e
  subst e2'
  rcases hat with hat | hat
  · exact h.d g hat
  · exact ⟨fun e2 => by have := (hN g e2).2; omega, fun hm => by have := (hB g hm).2; omega⟩
theorem ArW.mid {row : Option Nat} (h : ArW w wr d k kf vN vF qs fs) (hg : wr.grownBy w1 row) (hr : row = vN.ownBlock ∨ row = vF.ownBlock) : Lies w1 (w.heap.size + 1) 26 #[.int .i64 d, vN, vF, .slice none 0 0] := by
  have hb : ∀ r, row = some r → w.heap.size + 1 + 1 ≤ r := fun r e => by
    rcases hr with h' | h'
    · exact (ownsRow_block2 h.N.S r (h' ▸ e)).1
    · exact (ownsRow_block2 h.F r (h' ▸ e)).1
  exact (hg.block _ h.o.inside (fun e => by have := hb _ e.symm; omega)).trans h.o
end

end Go.Proofs.YtpgoildfjkokiaaGreat

/- The walk of impl.ground's arena, where nothing is retired. -/
namespace Go.Proofs.YtpgoildfjkokiaaGreat
open Go.RowKit

theorem ArW.start (w : World) (d : Int) : ArW w ((w.alloc (.cells #[.int .i64 0, .slice none 0 0, .slice none 0 0, .slice none 0 0] 26)).alloc (.cells #[.int .i64 d, .slice none 0 0, .slice none 0 0, .slice none 0 0] 26)) d 0 0 (.slice none 0 0) (.slice none 0 0) [] [] := by
  have h := Lies.new (w.alloc (.cells #[.int .i64 0, .slice none 0 0, .slice none 0 0, .slice none 0 0] 26)) 26 #[.int .i64 d, .slice none 0 0, .slice none 0 0, .slice none 0 0]
  simp only [World.size_alloc] at h
  exact ⟨(below_alloc _ _).alloc (below_alloc _ _).size _, (Lies.new w _ _).alloc _, h, ⟨⟨rfl, Or.inl ⟨rfl, rfl⟩⟩, fun q hq => by simp at hq, List.nodup_nil, fun b h => by simp [Value.ownBlock] at h⟩, ⟨rfl, Or.inl ⟨rfl, rfl⟩⟩, fun b h => by simp [Value.ownBlock] at h⟩
theorem info_node6 : ∃ i, Tryz.prog.info? 42 = some i ∧ i.zero = some (.agg #[.int .i64 0, .int .i64 0, .int .i64 0, .slice none 0 0]) ∧ i.size = 4 ∧ i.bytes = 48 := by
  obtain ⟨i, hi, h⟩ := Option.map_eq_some_iff.1 info_node
  injection h with h1 h2
  injection h2 with h2 h3
  exact ⟨i, hi, h1, h2, h3⟩
theorem EntriesRes.drewO {w : World} {base n c : Nat} {A : Option Addr} {qs : List EV} (h : EntriesRes w base A n c qs) : EntriesRes w.drew base A n c qs := h.kept (Below.refl _ _).drew
theorem EntriesRes.allocO {w : World} {base n c : Nat} {A : Option Addr} {qs : List EV} (h : EntriesRes w base A n c qs) (o : Obj) : EntriesRes (w.alloc o) base A n c qs := h.kept (below_alloc _ _)
theorem hty_ahead (lv d ns rt : Int) (A : Option Addr) (n c : Nat) (w : World) : (nilAhead 323 (hty lv) (.agg #[.int .i64 d, .slice A n c, .int .i64 lv, .int .i64 ns, .int .i64 rt]) "loop.example/g00680/impl.node").run Tryz.prog w = .ok (some false) w := by
  unfold hty
  split <;> kernel_rfl

set_option maxRecDepth 100000 in
set_option maxHeartbeats 12800000 in
theorem arenaNone_any (lo G pb cp n : Nat) (d : Int) (m : Value) (ps : List LV) (w : World) (hL : Lies w G 109 #[.int .i64 d, .slice (some ⟨pb, 0, none⟩) n cp, m, .slice none 0 0]) (hP : ∀ p ∈ ps, PlaceOk w lo d p) (hR : ∀ (k : Nat) (p : LV), ps[k]? = some p → w.cell? ⟨pb, k, none⟩ = some p.ptr) (hlen : ps.length = n) (hpb : pb < w.heap.size) (hn : n ≤ 40) :
    Calls Tryz.prog 66 #[.pointer (some ⟨G, 0, none⟩)] w fun e w' => ∃ (kf : Nat) (vN vF : Value) (qs : List NV), e = .returned (.agg #[.int .i64 d, vN, vF, .slice none 0 0]) ∧ NodesOut w' (w.heap.size + 1 + 1) vN n qs ∧ w'.ownsRow (w.heap.size + 1 + 1) 2 1 vF kf ((freeL 0 ps).map (Value.int .i64)) ∧ (∀ b, vF.ownBlock = some b → vN.ownBlock ≠ some b ∧ b ∉ nodesB qs) ∧ qs.map NV.val = ps.map LV.val ∧ Below w.heap.size w w' := by
  have HGL := Lib.hid hL
  have HGP := Lib.hid hP
  have HGR := Lib.hid hR
  have hG := hL.inside
  clear hL hP hR
  obtain ⟨i0, hi0, hz0, hz1, hz2⟩ := info_node6
  have IP := Lib.hid (And.intro hi0 (And.intro hz0 (And.intro hz1 hz2)))
  obtain ⟨j0, hj0, hy0, hy1, hy2⟩ := info_parts_i64
  have JP := Lib.hid (And.intro hj0 (And.intro hy0 (And.intro hy1 hy2)))
  clear hi0 hz0 hz1 hz2 hj0 hy0 hy1 hy2
  have B0 := below_alloc w (.cells #[.int .i64 0, .slice none 0 0, .slice none 0 0, .slice none 0 0] 26)
  have B1 := B0.alloc B0.size (.cells #[.int .i64 d, .slice none 0 0, .slice none 0 0, .slice none 0 0] 26)
  have a0 : (w.alloc (.cells #[.int .i64 0, .slice none 0 0, .slice none 0 0, .slice none 0 0] 26)).cell? ⟨G, 0, none⟩ = some (.int .i64 d) := (B0.cell (p := ⟨G, 0, none⟩) hG).trans (HGL.out.cell 0)
  have a1 : ((w.alloc (.cells #[.int .i64 0, .slice none 0 0, .slice none 0 0, .slice none 0 0] 26)).alloc (.cells #[.int .i64 d, .slice none 0 0, .slice none 0 0, .slice none 0 0] 26)).cell? ⟨G, 1, none⟩ = some (.slice (some ⟨pb, 0, none⟩) n cp) := (B1.cell (p := ⟨G, 1, none⟩) hG).trans (HGL.out.cell 1)
  clear B0 B1
  have ST := Lib.hid (ArW.start w d)
  go_enter Tryz.func66, Tryz.ntmps66
  go_wp2
  clear a0 a1
  go_loopw [18] (fun i wr => ∃ (k kf : Nat) (vN vF : Value) (qs : List NV), k ≤ n ∧ kf ≤ k ∧ i = .int .i64 (k : Int) ∧ Hid (ArW w wr d k kf vN vF qs (freeL 0 (ps.take k))) ∧ Hid (qs.map NV.val = (ps.take k).map LV.val)) (fun i _ => n - (intOf i).toNat)
  case atStart => exact ⟨0, 0, .slice none 0 0, .slice none 0 0, [], Nat.zero_le _, Nat.le_refl _, rfl, ST, rfl⟩
  case round =>
    obtain ⟨k, kf, vN, vF, qs, hk, hkf, rfl, hU, hV⟩ := hrel
    by_cases hlt : k < n
    · have hp : ps[k]? = some (ps[k]'(by omega)) := List.getElem?_eq_getElem (by omega)
      obtain ⟨p, hpp⟩ : ∃ p, p = ps[k]'(by omega) := ⟨_, rfl⟩
      rw [← hpp] at hp
      clear hpp
      have HPk := Lib.hid hp
      have hok := HGP.out p (List.mem_of_getElem? hp)
      have hc := HGR.out k p hp
      have hgp : p.g < w.heap.size := hok.L.inside
      have l0 : w.cell? ⟨p.g, 0, none⟩ = some (.iface (hty p.lv) (.agg #[.int .i64 d, .slice p.A p.n p.c, .int .i64 p.lv, .int .i64 p.ns, .int .i64 p.rt])) := hok.L.cell 0
      have l1 : w.cell? ⟨p.g, 1, none⟩ = some (.bool p.fr) := hok.L.cell 1
      obtain ⟨hok0, hn5, hent, _, _⟩ := nodeF_zero hok.N
      have hlS : p.vs.length = p.n := hok.O.1.symm.trans hok.S.1
      have HS := Lib.hid hok.S
      have HO := Lib.hid hok.O
      have HLE := Lib.hid (lens_of hent)
      have hd2 := hok0.1.1
      have hd3 := hok0.1.2
      have hn6 : p.n ≤ 8 := by omega
      clear hok0 hent hn5 hlS hok hp
      obtain ⟨g, lv, ns, rt, pA, pn, pc, ss, vs, fr, wA, wn, wcc, ws⟩ := p
      simp only at hgp l0 l1 HS HO HLE hn6
      have hc' : wr.cell? ⟨pb, k, none⟩ = some (.pointer (some ⟨g, 0, none⟩)) := (hU.out.b.cell (p := ⟨pb, k, none⟩) hpb).trans hc
      have l0' : wr.cell? ⟨g, 0, none⟩ = some (.iface (hty lv) (.agg #[.int .i64 d, .slice pA pn pc, .int .i64 lv, .int .i64 ns, .int .i64 rt])) := (hU.out.b.cell (p := ⟨g, 0, none⟩) hgp).trans l0
      have oc1 : wr.cell? ⟨w.heap.size + 1, 1, none⟩ = some vN := hU.out.o.cell 1
      have hsz : w.heap.size + 1 + 1 ≤ wr.heap.size := hU.out.o.inside
      have hm1 := hty_node lv d ns rt pA pn pc
      have hm2 := hty_ahead lv d ns rt pA pn pc
      clear hc l0
      go_upto_region 5 with fail
      go_cut [4, 5, 18] (fun s4 s5 s18 wx => s4 = .int .i64 (k : Int) ∧ s5 = .pointer (some ⟨g, 0, none⟩) ∧ s18 = .int .i64 (k : Int) ∧ ∃ (vM : Value) (q : NV), Hid (ArW w wx d (k + 1) kf vM vF (qs ++ [q]) (freeL 0 (ps.take k))) ∧ Hid (q.val = (lv, ns, rt, vs)))
      case first =>
        go_region_law
          (first
            | (apply step_append_lies (s := .tmp 24) (x := .tmp 30) (t := 22) (base := w.heap.size + 1 + 1) (e := 42) (i := i0) (z := .agg #[.int .i64 0, .int .i64 0, .int .i64 0, .slice none 0 0]) (size := 4) (bytes := 48) (v := vN) (n := k) (xs := qs.flatMap NV.cells) (ad := ⟨W1.heap.size, 0, none⟩) (m := 1) (c := 1) (news := [.int .i64 lv, .int .i64 ns, .int .i64 rt, .slice A2 pn c2]) (H := W1.heap.size + 1)
               case hgd => rfl
               case ho => rfl
               case ht => exact Tryz.underlying22
               case hi => exact IP.out.1
               case hz => exact IP.out.2.1
               case hsize => exact IP.out.2.2.1
               case hby => exact IP.out.2.2.2
               case hzs => rfl
               case hsz => omega
               case hs => rfl
               case hown => with_reducible (repeat (first | exact hU1.out.N.S | refine World.ownsRow.drew ?_ | refine World.ownsRow.alloc ?_ _))
               case hx => rfl
               case hl => rfl
               case hnews => exact World.news_of_block (cs := #[.int .i64 lv, .int .i64 ns, .int .i64 rt, .slice A2 pn c2]) (t := 42) (fr := (0, 0)) (by (with_reducible (repeat (refine Lies.drew ?_))); exact Lies.laid rfl)
               case h1 => simp [Value.oneCell']
               case hm => omega
               case h63 => unfold maxLen; omega
               case hbytes => omega
               case hbase => simp only [size_of_drew, World.size_alloc]; omega
               case hH => simp only [size_of_drew, World.size_alloc]
               intro gg cap w1 hown1 hgrow hat hlt1
               have hS1 : Lies w1 (w.heap.size + 1) 26 #[.int .i64 d, vN, vF, .slice none 0 0] := by
                 refine ArW.mid (k := k) (kf := kf) (qs := qs) (fs := freeL 0 (ps.take k)) ?_ hgrow (Or.inl rfl)
                 with_reducible (repeat (first | exact hU1.out | refine ArW.drew ?_ | refine ArW.alloc ?_ _))
               have hS2 : Hid (ArW w (w1.setCell ⟨w.heap.size + 1, 1, none⟩ (.slice (some ⟨gg, 0, none⟩) (k + 1) cap)) d (k + 1) kf (.slice (some ⟨gg, 0, none⟩) (k + 1) cap) vF (qs ++ [⟨lv, ns, rt, A2, pn, c2, es⟩]) (freeL 0 (ps.take k))) := by
                 refine ArW.node hU.out ?_ ?_ hown1 hgrow (hat.imp id fun h => ?_)
                 · with_reducible (repeat (first | exact hbW.out | refine Below.drew ?_ | refine Below.alloc ?_ hbS _))
                 · with_reducible (repeat (first | exact hER.out | refine EntriesRes.drewO ?_ | refine EntriesRes.allocO ?_ _))
                 · simp only [size_of_drew, World.size_alloc]; omega
               have s0 : w1.cell? ⟨w.heap.size + 1, 1, none⟩ = some vN := hS1.cell 1
               have s1 : w1.frozen? ⟨w.heap.size + 1, 1, none⟩ = false := hS1.thawed 1)
            | (go_simp; go_at_call 169; refine (bodyNode_any d lv ns rt pn pc d.toNat pA vs ss _ (HS.out.kept hU.out.b.drew) HO.out hn6 HLE.out (by omega) (by omega)).mono ?_
               rintro e W1 ⟨A2, c2, es, rfl, her, hvs, b1d⟩
               have b1 := below_drawn b1d
               have hER : Hid (EntriesRes W1 wr.heap.size A2 pn c2 es) := her
               have hVS := Lib.hid hvs
               have hbW := Lib.hid b1
               have hbS := b1.size
               have hU1 := Lib.hid (hU.out.call b1)
               have l1a : W1.cell? ⟨w.heap.size + 1, 1, none⟩ = some vN := hU1.out.o.cell 1
               have hsz1 : w.heap.size + 1 < W1.heap.size := hU1.out.o.inside
               have ne1 : ¬ w.heap.size + 1 = W1.heap.size := by omega
               have ne2 : ¬ W1.heap.size = w.heap.size + 1 := by omega
               clear b1 b1d her hvs
               dsimp only))
        all_goals
          go_wp2_with fail
          go_meet
          exact ⟨rfl, rfl, rfl, _, _, hS2, by show (_, _, _, _) = _; rw [hVS.out]⟩
      case' rest =>
        obtain ⟨rfl, rfl, rfl, vM, q, hN, hq⟩ := hcut
        have hVN : Hid ((qs ++ [q]).map NV.val = (ps.take (k + 1)).map LV.val) := by
          show _ = _
          rw [List.map_append, hV.out, List.take_add_one, HPk.out, List.map_append]
          simp only [Option.toList, List.map_cons, List.map_nil]
          rw [hq.out]; rfl
        have hfr : wc.cell? ⟨g, 1, none⟩ = some (.bool fr) := (hN.out.b.cell (p := ⟨g, 1, none⟩) hgp).trans l1
        clear hU oc1 hsz hc' l0' hm1 hm2 hV l1
        have oc2 : wc.cell? ⟨w.heap.size + 1, 2, none⟩ = some vF := hN.out.o.cell 2
        have hsz : w.heap.size + 1 + 1 ≤ wc.heap.size := hN.out.o.inside
        have HFN := Lib.hid (freeL_next (i := 0) HPk.out)
        cases fr
        · have hFE : Hid (freeL 0 (ps.take (k + 1)) = freeL 0 (ps.take k)) := by show _ = _; rw [HFN.out]; simp
          have hN2 : Hid (ArW w wc d (k + 1) kf vM vF (qs ++ [q]) (freeL 0 (ps.take (k + 1)))) := by show ArW _ _ _ _ _ _ _ _ _; rw [hFE.out]; exact hN.out
          clear hN hFE HFN
          go_wp2
          go_roundw
          case rel => exact ⟨k + 1, kf, _, _, _, by omega, by omega, by go_num, hN2, hVN⟩
          case measure => simp [intOf]; omega
        · have hFE : Hid (freeL 0 (ps.take (k + 1)) = freeL 0 (ps.take k) ++ [(k : Int)]) := by show _ = _; rw [HFN.out]; simp
          have HS3 := Lib.hid ((hN.out.alloc (.cells #[.int .i64 (k : Int)] 2)).F)
          have NEWS : Hid (∀ i u, ([.int .i64 (k : Int)] : List Value)[i]? = some u → (wc.alloc (.cells #[.int .i64 (k : Int)] 2)).cell? ((⟨wc.heap.size, 0, none⟩ : Addr).add i) = some u) := World.news_of_block (cs := #[.int .i64 (k : Int)]) (t := 2) (fr := (0, 0)) (Lies.new wc 2 #[.int .i64 (k : Int)])
          go_wp2_with (with_reducible refine wpList_append_lies _ rfl (.tmp 38) (.tmp 40) 23 rfl (w.heap.size + 1 + 1) 2 j0 (.int .i64 0) 1 8 Tryz.underlying23 JP.out.1 JP.out.2.1 JP.out.2.2.1 JP.out.2.2.2 rfl (by omega) vF kf ((freeL 0 (ps.take k)).map (Value.int .i64)) rfl HS3.out ⟨wc.heap.size, 0, none⟩ 1 1 [.int .i64 (k : Int)] rfl rfl NEWS.out ?q2 (by omega) ?q3 ?q4 ?q5 (wc.heap.size + 1) ?q6 ?_)
          case q2 => simp [Value.oneCell']
          case q3 => unfold maxLen; omega
          case q4 => omega
          case q5 => (try simp only [World.size_alloc]); omega
          try (case q6 => simp only [World.size_alloc])
          intro gg cap w1 ho hw hat hlt1
          have hM := Lib.hid ((hN.out.alloc (.cells #[.int .i64 (k : Int)] 2)).mid hw (Or.inr rfl))
          have hS2 := Lib.hid ((hN.out.alloc (.cells #[.int .i64 (k : Int)] 2)).free ho hw (by simpa only [World.size_alloc] using hat))
          have hS3 : Hid (ArW w (w1.setCell ⟨w.heap.size + 1, 2, none⟩ (.slice (some ⟨gg, 0, none⟩) (kf + 1) cap)) d (k + 1) (kf + 1) vM (.slice (some ⟨gg, 0, none⟩) (kf + 1) cap) (qs ++ [q]) (freeL 0 (ps.take (k + 1)))) := by show ArW _ _ _ _ _ _ _ _ _; rw [hFE.out]; exact hS2.out
          have s0 : w1.cell? ⟨w.heap.size + 1, 2, none⟩ = some vF := hM.out.cell 2
          have s1 : w1.frozen? ⟨w.heap.size + 1, 2, none⟩ = false := hM.out.thawed 2
          clear ho hw hat hlt1 HS3 NEWS oc2 hM hN hS2 hFE HFN
          go_wp2
          go_roundw
          case rel => exact ⟨k + 1, kf + 1, _, _, _, by omega, by omega, by go_num, hS3, hVN⟩
          case measure => simp [intOf]; omega
    · have hkn : k = n := by omega
      subst hkn
      have HT : ps.take k = ps := List.take_of_length_le (by omega)
      have hU2 := hU.out
      have hV2 := hV.out
      rw [HT] at hU2 hV2
      have HU := Lib.hid hU2
      have HV := Lib.hid hV2
      clear hU hV hU2 hV2 HT
      have g3 : wr.cell? ⟨G, 3, none⟩ = some (.slice none 0 0) := (HU.out.b.cell (p := ⟨G, 3, none⟩) hG).trans (HGL.out.cell 3)
      go_wp2
      clear g3
      go_loopw [49] (fun i wr => i = .int .i64 0 ∧ Hid (ArW w wr d k kf vN vF qs (freeL 0 ps))) (fun _ _ => 0)
      case atStart => exact ⟨rfl, HU⟩
      case round =>
        obtain ⟨rfl, HU2⟩ := hrel
        clear HU
        obtain ⟨A1, k1, hv1⟩ : ∃ A c, vN = .slice A k c := by
          rcases HU2.out.N.S.2 with ⟨e, e2⟩ | ⟨g, cap, cur, e, _⟩
          · subst e2; exact ⟨none, 0, e⟩
          · exact ⟨_, _, e⟩
        obtain ⟨A2, k2, hv2⟩ : ∃ A c, vF = .slice A kf c := by
          rcases HU2.out.F.2 with ⟨e, e2⟩ | ⟨g, cap, cur, e, _⟩
          · subst e2; exact ⟨none, 0, e⟩
          · exact ⟨_, _, e⟩
        subst hv1
        subst hv2
        have c0 : wr.cell? ⟨w.heap.size + 1, 0, none⟩ = some (.int .i64 d) := HU2.out.o.cell 0
        have c1 : wr.cell? ⟨w.heap.size + 1, 1, none⟩ = some (.slice A1 k k1) := HU2.out.o.cell 1
        have c2 : wr.cell? ⟨w.heap.size + 1, 2, none⟩ = some (.slice A2 kf k2) := HU2.out.o.cell 2
        have c3 : wr.cell? ⟨w.heap.size + 1, 3, none⟩ = some (.slice none 0 0) := HU2.out.o.cell 3
        have r0 : wr.cell? ⟨w.heap.size, 0, none⟩ = some (.int .i64 0) := HU2.out.r.cell 0
        have r1 : wr.cell? ⟨w.heap.size, 1, none⟩ = some (.slice none 0 0) := HU2.out.r.cell 1
        have r2 : wr.cell? ⟨w.heap.size, 2, none⟩ = some (.slice none 0 0) := HU2.out.r.cell 2
        have r3 : wr.cell? ⟨w.heap.size, 3, none⟩ = some (.slice none 0 0) := HU2.out.r.cell 3
        have f0 : wr.frozen? ⟨w.heap.size, 0, none⟩ = false := HU2.out.r.thawed 0
        have f1 : wr.frozen? ⟨w.heap.size, 1, none⟩ = false := HU2.out.r.thawed 1
        have f2 : wr.frozen? ⟨w.heap.size, 2, none⟩ = false := HU2.out.r.thawed 2
        have f3 : wr.frozen? ⟨w.heap.size, 3, none⟩ = false := HU2.out.r.thawed 3
        have NN := HU2.out.N
        have FF := HU2.out.F
        have DD := Lib.hid HU2.out.d
        have BB := Lib.hid ((((HU2.out.b.setCell (p := ⟨w.heap.size, 0, none⟩) (Nat.le_refl _) (.int .i64 d)).setCell (p := ⟨w.heap.size, 1, none⟩) (Nat.le_refl _) (.slice A1 k k1)).setCell (p := ⟨w.heap.size, 2, none⟩) (Nat.le_refl _) (.slice A2 kf k2)).setCell (p := ⟨w.heap.size, 3, none⟩) (Nat.le_refl _) (.slice none 0 0))
        have lt2 : w.heap.size < w.heap.size + 1 + 1 := by omega
        have N4 := Lib.hid ((((NN.far (a := ⟨w.heap.size, 0, none⟩) lt2 (.int .i64 d)).far (a := ⟨w.heap.size, 1, none⟩) lt2 (.slice A1 k k1)).far (a := ⟨w.heap.size, 2, none⟩) lt2 (.slice A2 kf k2)).far (a := ⟨w.heap.size, 3, none⟩) lt2 (.slice none 0 0))
        have F4 := Lib.hid (ownsRow_far2 (ownsRow_far2 (ownsRow_far2 (ownsRow_far2 FF (a := ⟨w.heap.size, 0, none⟩) lt2 (.int .i64 d)) (a := ⟨w.heap.size, 1, none⟩) lt2 (.slice A1 k k1)) (a := ⟨w.heap.size, 2, none⟩) lt2 (.slice A2 kf k2)) (a := ⟨w.heap.size, 3, none⟩) lt2 (.slice none 0 0))
        clear NN FF HU2
        go_wp2
        refine bodyPost_ret (v := .agg #[.int .i64 d, .slice A1 k k1, .slice A2 kf k2, .slice none 0 0]) (by simp [results, Tryz.results66, go_sem, r0, r1, r2, r3]) rfl ⟨kf, _, _, qs, rfl, ?_, ?_, DD.out, HV.out, ?_⟩
        · first | exact N4.out | exact ((N4.out))
        · exact F4.out
        · exact BB.out

end Go.Proofs.YtpgoildfjkokiaaGreat
