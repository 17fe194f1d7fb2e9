/- The walk of impl.ground's retire. -/
import Derived.Test.YtblhcnafoejahaaGreatRetire2
namespace Go.Proofs.YtblhcnafoejahaaGreat
open Go.RowKit

section
variable {w w' W w1 : World} {lo G M pb cp n km k : Nat} {d : Int} {o : Value} {ps : List LV} {ids : List Int} {f f' : Int → Option Nat}
/-- A place is noted in the map. -/
theorem Ret.mapped (h : Ret w lo G M d o pb cp n ps km k ids f) (hM : PMap w' M (km + 1) f') (hg : w.grownBy w' (some M)) : Ret w' lo G M d o pb cp n ps (km + 1) k ids f' := by
  have hm := h.m
  have hk : ∀ b, b < w.heap.size → b ≠ M → w'.heap[b]? = w.heap[b]? := fun b h1 h2 => hg.block b h1 (fun e => h2 (by injection e))
  refine ⟨h.G'.others hg.size (hk G h.G'.L.inside (fun e => h.ne e.symm)) (hk pb h.G'.R.i.2 (by have := h.G'.R.i.1; omega)) (fun p hp b hb => hk b ((h.G'.P.P p hp).inside hb).2 (by have := ((h.G'.P.P p hp).inside hb).1; omega)), h.S.kept hg (Or.inr fun e => by have := (ownsRow_block2 h.S M e).1; omega), h.V, hM, h.m, h.ne⟩
/-- Its number is put behind the others. -/
theorem Ret.ordered {gg cap : Nat} {id : Int} (h : Ret w lo G M d o pb cp n ps km k ids f) (hb : Below w.heap.size w W) (ho : w1.ownsRow lo 2 1 (.slice (some ⟨gg, 0, none⟩) (k + 1) cap) (k + 1) (ids.map (Value.int .i64) ++ [.int .i64 id])) (hw : W.grownBy w1 o.ownBlock) (hat : o.ownBlock = some gg ∨ gg = W.heap.size) :
    Ret (w1.setCell ⟨G, 3, none⟩ (.slice (some ⟨gg, 0, none⟩) (k + 1) cap)) lo G M d (.slice (some ⟨gg, 0, none⟩) (k + 1) cap) pb cp n ps km (k + 1) (ids ++ [id]) f := by
  have h' := h.kept hb
  have hbk := ownsRow_block2 h'.S
  have hgl := h.G'.g
  have hml := h.m
  have Gv : some G ≠ o.ownBlock := fun e => by have := (hbk G e.symm).1; omega
  have keepB : ∀ b, b < W.heap.size → some b ≠ o.ownBlock → b ≠ G → (w1.setCell ⟨G, 3, none⟩ (.slice (some ⟨gg, 0, none⟩) (k + 1) cap)).heap[b]? = W.heap[b]? := fun b h1 h2 h3 =>
    (heap_setCell_other w1 ⟨G, 3, none⟩ b _ h3).trans (hw.block b h1 h2)
  have hs : W.heap.size ≤ (w1.setCell ⟨G, 3, none⟩ (.slice (some ⟨gg, 0, none⟩) (k + 1) cap)).heap.size := by rw [size_of_setCell]; exact hw.size
  have hpb : (w1.setCell ⟨G, 3, none⟩ (.slice (some ⟨gg, 0, none⟩) (k + 1) cap)).heap[pb]? = W.heap[pb]? := keepB pb h'.G'.R.i.2 (fun e => (h.V pb e.symm).1 rfl) (by have := h'.G'.R.i.1; omega)
  have hpp : ∀ p ∈ ps, ∀ b, p.has b → (w1.setCell ⟨G, 3, none⟩ (.slice (some ⟨gg, 0, none⟩) (k + 1) cap)).heap[b]? = W.heap[b]? := fun p hp b hb' => keepB b ((h'.G'.P.P p hp).inside hb').2 (fun e => (h.V b e.symm).2 p hp hb') (by have := ((h'.G'.P.P p hp).inside hb').1; omega)
  refine ⟨⟨Lies.set (w := w1) ((hw.block G h'.G'.L.inside Gv).trans h'.G'.L) 3 _, h'.G'.P.others hs hpp, ⟨h'.G'.R.l, fun j p hj => (World.cell?_of_block (w := W) (a := ⟨pb, j, none⟩) hpb).trans (h'.G'.R.c j p hj), ⟨h'.G'.R.i.1, Nat.lt_of_lt_of_le h'.G'.R.i.2 hs⟩, h'.G'.R.x⟩, hgl⟩, ?_, fun b e => ?_, h'.M'.block (keepB M h'.M'.inside (fun e => by have := (hbk M e.symm).1; omega) h.ne), h.m, h.ne⟩
  · exact ownsRow_far2 (by simpa using ho) (by show G < lo; exact hgl) _
  · have e' : gg = b := by simpa [Value.ownBlock] using e
    subst e'
    rcases hat with hat | hat
    · exact h.V gg hat
    · refine ⟨by have := h'.G'.R.i.2; omega, fun p hp hb' => ?_⟩
      have := ((h'.G'.P.P p hp).inside hb').2; omega
end

/-- 'm[id] = p' at the operation. -/
theorem wpList_pmap (w : World) {ops : Array Oper} {rest : List Oper} {o : Oper} {a : Act} {Q : Exit → Act → World → Prop} (hg : o.guard = none) (m x v : Operand) (hop : o.op = Op.mapUpdate 78 m x v) (M km : Nat) (f : Int → Option Nat) (hm : a.eval m = .map (some M)) (hM : PMap w M km f) (hk : km < maxLen) (id : Int) (hx : a.eval x = .int .i64 id) (hid : (Lit.int .i64 id).wf = true) (g : Nat) (hv : a.eval v = .pointer (some ⟨g, 0, none⟩))
    (hK : ∀ w', PMap w' M (km + 1) (fun x => if x = id then some g else f x) → w.grownBy w' (some M) → wpList Tryz.prog ops Q rest (a.put o.dst undef) w') : wpList Tryz.prog ops Q (o :: rest) a w := by
  refine wpList_plain hg fun K' hK' => ?_
  obtain ⟨w', hrun, r1, r2⟩ := hM.store hk hid g
  unfold Oper.wp
  simp [execOp, hop, hm, hx, hv, hrun, Result.andThen]
  exact hK' _ _ (hK w' r1 r2)

/-- A place that is watched by xs. -/
def LV.seen (p q : LV) (xs : List Int) : Prop := ∃ g5 n1 cap, q = { p with wA := some ⟨g5, 0, none⟩, wn := n1, wc := cap, ws := xs }

set_option maxRecDepth 100000 in
set_option maxHeartbeats 3200000 in
theorem retire_any (d : Int) (lo B0 G M pb cp n km k j n1 c1 : Nat) (o : Value) (X1 : Option Addr) (xs : List Int) (ps : List LV) (p : LV) (ids : List Int) (f : Int → Option Nat) (w : World) (h : Ret w lo G M d o pb cp n ps km k ids f) (hj : ps[j]? = some p) (hI : Ints w 0 X1 n1 xs) (h0 : 0 < n1) (hn1 : n1 ≤ 4) (hlo : lo ≤ w.heap.size) (hkm : km ≤ 1048576) (hk : k ≤ 1048576) (hn : n ≤ 40) (hB1 : B0 ≤ G) (hB2 : B0 ≤ M) (hBlo : B0 ≤ lo) :
    Calls Tryz.prog 52 #[.pointer (some ⟨G, 0, none⟩), .int .i64 (j : Int), .slice X1 n1 c1] w fun e w' => e = .returned noResult ∧ Below B0 w w' ∧ ∃ o' q, Ret w' lo G M d o' pb cp n (ps.set j q) (km + 1) (k + 1) (ids ++ [(j : Int)]) (fun x => if x = (j : Int) then some p.g else f x) ∧ p.seen q xs := by
  have H := Lib.hid h
  have HJ := Lib.hid hj
  have HI := Lib.hid hI
  have hjn : j < n := by have := (List.getElem?_eq_some_iff.1 hj).1; rw [h.G'.R.l] at this; exact this
  have hjn' : (j : Int) < (n : Int) := by omega
  have HP := Lib.hid (h.G'.P.P p (List.mem_of_getElem? hj))
  have hpg := HP.out.g
  have HW : Hid ((Lit.int .i64 (j : Int)).wf = true) := WalkArith.wf_i64 (by omega)
  obtain ⟨i0, hi0, hz0, hz1, hz2⟩ := info_parts_i64
  have IP := Lib.hid (And.intro hi0 (And.intro hz0 (And.intro hz1 hz2)))
  have g1 : w.cell? ⟨G, 1, none⟩ = some (.slice (some ⟨pb, 0, none⟩) n cp) := h.G'.L.cell 1
  have g2 : w.cell? ⟨pb, j, none⟩ = some (.pointer (some ⟨p.g, 0, none⟩)) := h.G'.R.c j p hj
  clear h hj hI hi0 hz0 hz1 hz2
  go_enter Tryz.func52, Tryz.ntmps52
  go_wp2_with fail
  refine (cloneInts_any _ _ _ _ xs _ HI.out h0 (by omega)).mono ?_
  rintro e W1 ⟨g5, cap, rfl, hI5, b1⟩
  have H2 := Lib.hid (H.out.watch (cap := cap) b1 HJ.out hI5 h0 hlo)
  have HP1 := Lib.hid (HP.out.kept b1)
  have BB : Hid (Below B0 w (W1.setCell ⟨p.g, 2, none⟩ (.slice (some ⟨g5, 0, none⟩) n1 cap))) := (b1.mono (by omega)).setCell (by show B0 ≤ p.g; omega) _
  have s2 : W1.cell? ⟨p.g, 2, none⟩ = some (.slice p.wA p.wn p.wc) := HP1.out.L.cell 2
  have f2 : W1.frozen? ⟨p.g, 2, none⟩ = false := HP1.out.L.thawed 2
  have g3 : (W1.setCell ⟨p.g, 2, none⟩ (.slice (some ⟨g5, 0, none⟩) n1 cap)).cell? ⟨G, 2, none⟩ = some (.map (some M)) := H2.out.G'.L.cell 2
  clear b1 hI5 g1 g2 HP HP1
  go_wp2_with (at_mapUpdate; refine wpList_pmap _ rfl (.tmp 22) (.tmp 23) (.tmp 24) rfl M km f rfl H2.out.M' (by unfold maxLen; omega) (j : Int) rfl HW.out p.g rfl ?_)
  intro W3 hM3 hg3
  have H3 := Lib.hid (H2.out.mapped hM3 hg3)
  have B3 : Hid (Below B0 w W3) := below_grown2 BB.out hg3 (fun r e => by injection e with e; omega) (by have := BB.out.size; omega)
  clear hM3 hg3 H2 BB g3 s2 f2
  have g3 : W3.cell? ⟨G, 3, none⟩ = some o := H3.out.G'.L.cell 3
  have hGW : G < W3.heap.size := H3.out.G'.L.inside
  have bA := Lib.hid (below_alloc W3 (.cells #[.int .i64 (j : Int)] 2))
  have HS3 := Lib.hid (ownsRow_below H3.out.S bA.out)
  have hloW : lo ≤ W3.heap.size := by have := H3.out.G'.R.i; omega
  have NEWS : Hid (∀ i u, ([.int .i64 (j : Int)] : List Value)[i]? = some u → (W3.alloc (.cells #[.int .i64 (j : Int)] 2)).cell? ((⟨W3.heap.size, 0, none⟩ : Addr).add i) = some u) := World.news_of_block (cs := #[.int .i64 (j : Int)]) (t := 2) (fr := (0, 0)) (Lies.new W3 2 #[.int .i64 (j : Int)])
  go_wp2_with (with_reducible refine wpList_append_lies _ rfl (.tmp 29) (.tmp 31) 23 rfl lo 2 i0 (.int .i64 0) 1 8 Tryz.underlying23 IP.out.1 IP.out.2.1 IP.out.2.2.1 IP.out.2.2.2 rfl (by omega) o k (ids.map (Value.int .i64)) rfl HS3.out ⟨W3.heap.size, 0, none⟩ 1 1 [.int .i64 (j : Int)] rfl rfl NEWS.out ?q2 (by omega) ?q3 ?q4 ?q5 (W3.heap.size + 1) ?q6 ?_)
  case q2 => simp [Value.oneCell']
  case q3 => unfold maxLen; omega
  case q4 => omega
  case q5 => simp only [World.size_alloc]; omega
  case q6 => simp only [World.size_alloc]
  intro gg cap2 w1 ho hw hat hlt1
  have hbk := ownsRow_block2 HS3.out
  have H4 := Lib.hid (H3.out.ordered (cap := cap2) bA.out ho hw (by simpa only [World.size_alloc] using hat))
  have LG := Lib.hid ((hw.block G (H3.out.kept bA.out).G'.L.inside (fun e => by have := (hbk G e.symm).1; have := H3.out.G'.g; omega)).trans (H3.out.kept bA.out).G'.L)
  have s3 : w1.cell? ⟨G, 3, none⟩ = some o := Lies.cell LG.out 3
  have f3 : w1.frozen? ⟨G, 3, none⟩ = false := Lies.thawed LG.out 3
  have B4 : Hid (Below B0 w (w1.setCell ⟨G, 3, none⟩ (.slice (some ⟨gg, 0, none⟩) (k + 1) cap2))) := by
    refine Below.setCell (below_grown2 (B3.out.alloc (by have := B3.out.size; omega) _) hw (fun r e => by have := (hbk r e).1; omega) ?_) hB1 _
    have := B3.out.size; simp only [World.size_alloc]; omega
  clear ho hw hat hlt1 hbk HS3 H3 B3 g3 bA NEWS LG
  go_wp2
  go_end0
  exact ⟨rfl, B4.out, _, _, H4.out, g5, n1, cap, rfl⟩

end Go.Proofs.YtblhcnafoejahaaGreat
