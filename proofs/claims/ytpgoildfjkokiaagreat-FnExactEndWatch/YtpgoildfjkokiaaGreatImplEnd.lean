/- What impl.ground's endWatch stands on: a row of who watches that becomes shorter; where the range over the map stands. -/
import Derived.Test.YtpgoildfjkokiaaGreatImplRelease
import Derived.Maps.RangeWalk
namespace Go.Proofs.YtpgoildfjkokiaaGreat
open Go.RowKit Go.Maps

set_option maxHeartbeats 400000 in
theorem endOne_any (cb : Nat) (x c : Int) (w : World) (hc : w.cell? ⟨cb, 0, none⟩ = some (.int .i64 c)) :
    Calls Tryz.prog 106 #[.int .i64 x, .pointer (some ⟨cb, 0, none⟩)] w fun e w' => e = .returned (.bool (x == c)) ∧ w = w' := by
  go_enter Tryz.func106, Tryz.ntmps106
  go_wp2
  go_ret
  exact ⟨rfl, rfl⟩

/-- Fewer watch, in the same row. -/
def LV.thin (q : LV) (m : Nat) (ys : List Int) : LV := ⟨q.g, q.lv, q.ns, q.rt, q.A, q.n, q.c, q.ss, q.vs, q.fr, q.wA, m, q.wc, ys⟩
theorem LV.thin_row {q : LV} {m : Nat} {ys : List Int} (h0 : 0 < q.wn) {b : Nat} (h : (q.thin m ys).row b) : q.row b := by
  rcases h with h | ⟨_, h⟩
  · exact Or.inl h
  · exact Or.inr ⟨h0, h⟩
theorem Apart.thin {qs : List LV} {j m : Nat} {q : LV} {ys : List Int} (h : Apart qs) (hq : qs[j]? = some q) (h0 : 0 < q.wn) : Apart (qs.set j (q.thin m ys)) := by
  have hjl := (List.getElem?_eq_some_iff.1 hq).1
  have old : ∀ (i : Nat) (p : LV), (qs.set j (q.thin m ys))[i]? = some p → ∃ p0, qs[i]? = some p0 ∧ p.n = p0.n ∧ p.A = p0.A ∧ (∀ b, p.row b → p0.row b) ∧ ∀ b, p.wrow b → p0.wrow b := by
    intro i p hp
    rw [List.getElem?_set] at hp
    by_cases e : j = i
    · subst e
      rw [if_pos rfl, if_pos hjl] at hp
      injection hp with hp; subst hp
      exact ⟨q, hq, rfl, rfl, fun b => LV.thin_row h0, fun b hb => ⟨h0, hb.2⟩⟩
    · rw [if_neg e] at hp
      exact ⟨p, hp, rfl, rfl, fun _ h => h, fun _ h => h⟩
  intro i k a c b ha hc hb
  obtain ⟨a0, ha0, en, eA, _, hw⟩ := old i a ha
  obtain ⟨c0, hc0, _, _, hr, _⟩ := old k c hc
  obtain ⟨r1, r2⟩ := h i k a0 c0 b ha0 hc0 (hw b hb)
  exact ⟨fun hne hcb => r1 hne (hr b hcb), by rw [en, eA]; exact r2⟩
theorem Ret.thin {w W : World} {lo G M pb cp n km k j gw m : Nat} {d : Int} {o : Value} {qs : List LV} {ids : List Int} {f : Int → Option Nat} {q : LV} {ys : List Int} (h : Ret w lo G M d o pb cp n qs km k ids f) (hap : Apart qs) (hj : qs[j]? = some q) (h0 : 0 < q.wn) (hA : q.wA = some ⟨gw, 0, none⟩) (hT : Turned (fun x => x = gw) w W) (hO : W.ownsRow lo 2 1 (.slice (some ⟨gw, 0, none⟩) m q.wc) m (ys.map (Value.int .i64))) :
    Ret (W.setCell ⟨q.g, 2, none⟩ (.slice (some ⟨gw, 0, none⟩) m q.wc)) lo G M d o pb cp n (qs.set j (q.thin m ys)) km k ids f := by
  have hp := h.G'.P.P q (List.mem_of_getElem? hj)
  have hjl := (List.getElem?_eq_some_iff.1 hj).1
  have hqr : q.row gw := Or.inr ⟨h0, hA⟩
  have hqw : q.wrow gw := ⟨h0, hA⟩
  have hgq : ¬ q.g = gw := fun e => hp.Y (e ▸ hqr)
  have hgl := hp.inside (Or.inr hqr)
  have hpg := hp.g
  have hpi := hp.L.inside
  have hGl := h.G'.g
  have hMl := h.m
  have hs : w.heap.size ≤ (W.setCell ⟨q.g, 2, none⟩ (.slice (some ⟨gw, 0, none⟩) m q.wc)).heap.size := by rw [size_of_setCell]; exact hT.2.1
  have keep : ∀ b, b < w.heap.size → b ≠ gw → b ≠ q.g → (W.setCell ⟨q.g, 2, none⟩ (.slice (some ⟨gw, 0, none⟩) m q.wc)).heap[b]? = w.heap[b]? := fun b h1 h2 h3 =>
    (heap_setCell_other W ⟨q.g, 2, none⟩ b _ h3).trans (hT.2.2 b h1 h2)
  have hO' : (W.setCell ⟨q.g, 2, none⟩ (.slice (some ⟨gw, 0, none⟩) m q.wc)).ownsRow lo 2 1 (.slice (some ⟨gw, 0, none⟩) m q.wc) m (ys.map (Value.int .i64)) :=
    ownsRow_away hO (fun r e => by
      have e2 : gw = r := by simpa [Value.ownBlock] using e
      show r ≠ q.g
      exact fun e3 => hgq (e3.symm.trans e2.symm)) _
  have hI : Ints (W.setCell ⟨q.g, 2, none⟩ (.slice (some ⟨gw, 0, none⟩) m q.wc)) 0 (some ⟨gw, 0, none⟩) m ys := by
    obtain ⟨A', c', e, hI⟩ := ints_of_owns hO'
    injection e with e1 e2 e3
    subst e1
    exact hI.lower (Nat.zero_le _)
  have POK : PlaceOk (W.setCell ⟨q.g, 2, none⟩ (.slice (some ⟨gw, 0, none⟩) m q.wc)) lo d (q.thin m ys) := by
    refine ⟨?_, hp.S.block hp.F hs (fun b h1 e => keep b (Fresh.in_slots hp.S h1 e) (fun e' => (hap j j q q gw hj hj hqw).2 h1 (e' ▸ e)) (fun e' => hp.Y (Or.inl ⟨h1, e' ▸ e⟩))), hp.O, hp.N, ?_, hpg, hp.F, fun _ => ⟨gw, hA, hgl.1⟩, fun hy => hp.Y (LV.thin_row h0 hy), fun _ => ?_⟩
    · have h1 := (hT.lies hp.L hgq).set 2 (.slice (some ⟨gw, 0, none⟩) m q.wc)
      have e : (q.cells d).setIfInBounds 2 (.slice (some ⟨gw, 0, none⟩) m q.wc) = (q.thin m ys).cells d := by
        unfold LV.cells LV.thin
        rw [hA]; rfl
      rw [e] at h1; exact h1
    · show Ints _ 0 q.wA m ys
      rw [hA]; exact hI
    · show World.ownsRow _ lo _ 1 (.slice q.wA m q.wc) m _
      rw [hA]; exact hO'
  have other : ∀ (i : Nat) (p : LV), i ≠ j → qs[i]? = some p → ∀ b, p.has b → (W.setCell ⟨q.g, 2, none⟩ (.slice (some ⟨gw, 0, none⟩) m q.wc)).heap[b]? = w.heap[b]? := by
    intro i p hij hi b hb
    refine keep b ((h.G'.P.P p (List.mem_of_getElem? hi)).inside hb).2 (fun e => ?_) (fun e => h.G'.P.X j i q p hj hi (fun e' => hij e'.symm) (e ▸ hb))
    subst e
    rcases hb with hb | hb
    · exact h.G'.P.X i j p q hi hj hij (hb ▸ Or.inr hqr)
    · exact (hap j i q p b hj hi hqw).1 (fun e => hij e.symm) hb
  have hpbg : pb ≠ q.g := fun e => h.G'.R.x q (List.mem_of_getElem? hj) (Or.inl e.symm)
  have hpbw : pb ≠ gw := fun e => h.G'.R.x q (List.mem_of_getElem? hj) (Or.inr (e ▸ hqr))
  have hpbk := keep pb h.G'.R.i.2 hpbw hpbg
  have mem : ∀ p ∈ qs.set j (q.thin m ys), ∃ p0 ∈ qs, p.g = p0.g ∧ ∀ b, p.has b → p0.has b := by
    intro p hp'
    rcases List.mem_or_eq_of_mem_set hp' with hp' | rfl
    · exact ⟨p, hp', rfl, fun _ h => h⟩
    · exact ⟨q, List.mem_of_getElem? hj, rfl, fun b hb => hb.imp (fun h => h) (LV.thin_row h0)⟩
  refine ⟨⟨(keep G h.G'.L.inside (by omega) (by omega)).trans h.G'.L, ⟨fun p hp' => ?_, fun i k' a c ha hc hne => ?_⟩, ⟨by rw [List.length_set]; exact h.G'.R.l, fun k' p hk => ?_, ⟨h.G'.R.i.1, Nat.lt_of_lt_of_le h.G'.R.i.2 hs⟩, fun p hp' hb => ?_⟩, hGl⟩, ?_, fun b e => ⟨(h.V b e).1, fun p hp' hb => ?_⟩, h.M'.block (keep M h.M'.inside (by omega) (by omega)), h.m, h.ne⟩
  · obtain ⟨i, hi⟩ := List.getElem?_of_mem hp'
    rw [List.getElem?_set] at hi
    by_cases e : j = i
    · subst e
      rw [if_pos rfl, if_pos hjl] at hi
      injection hi with hi; subst hi; exact POK
    · rw [if_neg e] at hi
      exact (h.G'.P.P p (List.mem_of_getElem? hi)).others hs (other i p (fun e' => e e'.symm) hi)
  · have old : ∀ (i : Nat) (p : LV), (qs.set j (q.thin m ys))[i]? = some p → ∃ p0, qs[i]? = some p0 ∧ p.g = p0.g ∧ ∀ b, p.has b → p0.has b := by
      intro i p hi
      rw [List.getElem?_set] at hi
      by_cases e : j = i
      · subst e
        rw [if_pos rfl, if_pos hjl] at hi
        injection hi with hi; subst hi
        exact ⟨q, hj, rfl, fun b hb => hb.imp (fun h => h) (LV.thin_row h0)⟩
      · rw [if_neg e] at hi
        exact ⟨p, hi, rfl, fun _ h => h⟩
    obtain ⟨a0, ha0, ea, _⟩ := old i a ha
    obtain ⟨c0, hc0, _, hcb⟩ := old k' c hc
    exact fun hb => h.G'.P.X i k' a0 c0 ha0 hc0 hne (ea ▸ hcb _ hb)
  · rw [World.cell?_of_block (w := w) (a := ⟨pb, k', none⟩) hpbk]
    rw [List.getElem?_set] at hk
    by_cases e : j = k'
    · subst e
      rw [if_pos rfl, if_pos hjl] at hk
      injection hk with hk; subst hk
      exact h.G'.R.c j q hj
    · rw [if_neg e] at hk; exact h.G'.R.c k' p hk
  · obtain ⟨p0, hp0, _, hb0⟩ := mem p hp'
    exact h.G'.R.x p0 hp0 (hb0 _ hb)
  · exact ownsRow_others h.S (fun b e => keep b (ownsRow_block2 h.S b e).2 (fun e' => (h.V b e).2 q (List.mem_of_getElem? hj) (e' ▸ Or.inr hqr)) (fun e' => (h.V b e).2 q (List.mem_of_getElem? hj) (Or.inl e'.symm)))
  · obtain ⟨p0, hp0, _, hb0⟩ := mem p hp'
    exact (h.V b e).2 p0 hp0 (hb0 _ hb)

/-- The range stands where it stood while the map's block and its own are as they were. -/
theorem ranges_block {H : Type} {P : Program} {k : TypeId} {R : Value → Option (DataW H × List MemPlace)} {w w' : World} {b r n : Nat} {D : DataW H} {left : Lit → Bool} {cnt : Nat} (h : w.ranges P k R b r n D left cnt) (hb' : w'.heap[b]? = w.heap[b]?) (hr' : w'.heap[r]? = w.heap[r]?) : w'.ranges P k R b r n D left cnt := by
  obtain ⟨es, clock, since, seen, c0, hb, F, hs, hD, hr, rest⟩ := h
  exact ⟨es, clock, since, seen, c0, hb'.trans hb, F, hs, hD, hr'.trans hr, rest⟩

/-- How the round's pointer is told. -/
def ptrV : Option Nat → Value
  | some g => .pointer (some ⟨g, 0, none⟩)
  | none => .pointer none
theorem ptrElem_inv {v : Value} {y : DataW Unit × List MemPlace} (h : ptrElem v = some y) : ∃ c, v = ptrV c := by
  unfold ptrElem at h
  split at h
  · rename_i g'; exact ⟨some g', rfl⟩
  · exact ⟨none, rfl⟩
  · cases h
theorem ptrElem_ptrV {c : Option Nat} {y : DataW Unit × List MemPlace} (h : ptrElem (ptrV c) = some y) : y.1 = match c with | some g => .lit (.int .i64 (g : Int)) | none => .nil := by
  cases c with
  | none => simp [ptrV, ptrElem] at h; subst h; rfl
  | some g => simp [ptrV, ptrElem] at h; subst h; rfl

/-- Where the loop stands: who was seen is watched by the client no more. -/
def EndAt (qs : List LV) (f : Int → Option Nat) (us : List RVal) (left : Lit → Bool) (c : Int) : Prop :=
  ∀ (i : Nat) (u : RVal), us[i]? = some u → ∃ (j : Nat) (q : LV), u.1 = (j : Int) ∧ qs[j]? = some q ∧ f u.1 = some q.g ∧ q.ws = if left (.int .i64 u.1) then u.2 else u.2.filter (fun x => !(x == c))
theorem EndAt.start {qs : List LV} {f : Int → Option Nat} {us : List RVal} {left : Lit → Bool} {c : Int} (h : Watched qs f us) (hl : ∀ u ∈ us, left (.int .i64 u.1) = true) : EndAt qs f us left c := by
  intro i u hu
  obtain ⟨j, q, e1, e2, e3, e4⟩ := h i u hu
  exact ⟨j, q, e1, e2, e3, by rw [hl u (List.mem_of_getElem? hu), if_pos rfl]; exact e4⟩
theorem EndAt.step {qs : List LV} {f : Int → Option Nat} {us : List RVal} {left : Lit → Bool} {c : Int} {j i m : Nat} {q : LV} {u : RVal} (h : EndAt qs f us left c) (hd : diffL us) (hu : us[i]? = some u) (hj : u.1 = (j : Int)) (hq : qs[j]? = some q) : EndAt (qs.set j (q.thin m (u.2.filter (fun x => !(x == c))))) f us (fun z => left z && !z.sameKey (.int .i64 u.1)) c := by
  have hjl := (List.getElem?_eq_some_iff.1 hq).1
  intro i' v hv
  obtain ⟨j', q', e1, e2, e3, e4⟩ := h i' v hv
  by_cases e : i' = i
  · subst e
    rw [hu] at hv; injection hv with hv; subst hv
    have ej : j' = j := by rw [hj] at e1; omega
    subst ej
    rw [hq] at e2; injection e2 with e2; subst e2
    refine ⟨j', q.thin m (u.2.filter (fun x => !(x == c))), hj, by rw [List.getElem?_set, if_pos rfl, if_pos hjl], e3, ?_⟩
    have : (Lit.int .i64 u.1).sameKey (.int .i64 u.1) = true := by simp [Lit.sameKey]
    show u.2.filter (fun x => !(x == c)) = if (left (.int .i64 u.1) && !(Lit.int .i64 u.1).sameKey (.int .i64 u.1)) = true then u.2 else u.2.filter (fun x => !(x == c))
    rw [this, Bool.not_true, Bool.and_false, if_neg (by decide)]
  · have hne : v.1 ≠ u.1 := hd i' i v u hv hu e
    refine ⟨j', q', e1, by rw [List.getElem?_set, if_neg (by rintro rfl; exact hne (e1.trans hj.symm))]; exact e2, e3, ?_⟩
    have : (Lit.int .i64 v.1).sameKey (.int .i64 u.1) = false := by simp [Lit.sameKey, hne]
    show q'.ws = if (left (.int .i64 v.1) && !(Lit.int .i64 v.1).sameKey (.int .i64 u.1)) = true then v.2 else v.2.filter (fun x => !(x == c))
    rw [this, Bool.not_false, Bool.and_true]; exact e4
theorem EndAt.done {qs : List LV} {f : Int → Option Nat} {us : List RVal} {left : Lit → Bool} {c : Int} (h : EndAt qs f us left c) (hl : ∀ kl, left kl = false) : Watched qs f (leftU c us) := by
  intro i v hv
  unfold leftU at hv
  rw [List.getElem?_map] at hv
  obtain ⟨u, hu, rfl⟩ := Option.map_eq_some_iff.1 hv
  obtain ⟨j, q, e1, e2, e3, e4⟩ := h i u hu
  exact ⟨j, q, e1, e2, e3, by rw [hl, if_neg (by decide)] at e4; exact e4⟩
theorem Kept.thin {ps qs : List LV} {j m : Nat} {q : LV} {ys : List Int} (h : Kept ps qs) (hj : qs[j]? = some q) : Kept ps (qs.set j (q.thin m ys)) := by
  refine ⟨by rw [List.length_set]; exact h.1, fun i t ht => ?_⟩
  rw [List.getElem?_set] at ht
  by_cases e : j = i
  · subst e
    rw [if_pos rfl, if_pos (List.getElem?_eq_some_iff.1 hj).1] at ht
    injection ht with ht; subst ht
    obtain ⟨p, h1, h2, h3, h4⟩ := h.2 j q hj
    exact ⟨p, h1, h2, h3, h4⟩
  · rw [if_neg e] at ht; exact h.2 i t ht

end Go.Proofs.YtpgoildfjkokiaaGreat

/- The walk of impl.ground's endWatch: a client watches no more. -/
namespace Go.Proofs.YtpgoildfjkokiaaGreat
open Go.RowKit Go.Maps

set_option maxRecDepth 100000 in
set_option maxHeartbeats 12800000 in
theorem endWatch_any (d c : Int) (lo B0 G M pb cp n km k : Nat) (o : Value) (ps : List LV) (us : List RVal) (f : Int → Option Nat) (w : World) (h : Ret w lo G M d o pb cp n ps km k (us.map (·.1)) f) (hW : Watched ps f us) (hap : Apart ps) (hdf : diffL us) (hdm : ∀ x : Int, (f x).isSome = (us.map (·.1)).contains x) (hne : ∀ u ∈ us, 0 < u.2.length ∧ u.2.length ≤ 4) (hlo : lo ≤ w.heap.size) (hn : n ≤ 40) (hB1 : B0 ≤ G) (hB2 : B0 ≤ M) (hBlo : B0 ≤ lo) :
    Calls Tryz.prog 70 #[.pointer (some ⟨G, 0, none⟩), .int .i64 c] w fun e w' => e = .returned noResult ∧ Below B0 w w' ∧ ∃ qs, Ret w' lo G M d o pb cp n qs km k (us.map (·.1)) f ∧ Watched qs f (leftU c us) ∧ Kept ps qs := by
  have H := Lib.hid h
  have HDF := Lib.hid hdf
  have HDM := Lib.hid hdm
  have HNE := Lib.hid hne
  have HWT := Lib.hid hW
  have HAP := Lib.hid hap
  have gx := h.G'.g
  have mx := h.m
  have gin := h.G'.L.inside
  have hpbw := h.G'.R.i.2
  have HOB : Hid (∀ b, o.ownBlock = some b → b < w.heap.size) := fun b e => (ownsRow_block2 h.S b e).2
  have hMin := h.M'.inside
  obtain ⟨D, hown, hmap, hkeys⟩ := h.M'
  have HMAP := Lib.hid hmap
  have HKEY := Lib.hid hkeys
  have HST : Hid (EndAt ps f us (Maps.has D) c) := EndAt.start hW (fun u hu => by
    rw [(hkeys u.1).1, hdm u.1, List.contains_iff_mem]; exact List.mem_map.2 ⟨u, hu, rfl⟩)
  have hM0 : Hid ((w.alloc (.cells #[.int .i64 c] 2)).ownsMap Tryz.prog 2 ptrElem M km D) := by
    obtain ⟨es, clock, h1, h2⟩ := hown
    exact ⟨es, clock, ((below_alloc w _).block M (Array.getElem?_eq_some_iff.1 h1).1).trans h1, h2⟩
  have H0 := Lib.hid (h.kept (below_alloc w (.cells #[.int .i64 c] 2)))
  have B0' := Lib.hid ((below_alloc w (.cells #[.int .i64 c] 2)).mono (show B0 ≤ w.heap.size by omega))
  have LX := Lib.hid (Lies.new w 2 #[.int .i64 c])
  have HPB : Hid (∀ q ∈ ps, q.g < w.heap.size ∧ ∀ b, q.row b → b < w.heap.size) := fun q hq => ⟨(h.G'.P.P q hq).L.inside, fun b hb => ((h.G'.P.P q hq).inside (Or.inr hb)).2⟩
  clear h hW hap hdf hdm hne hown hmap hkeys
  have g2 : (w.alloc (.cells #[.int .i64 c] 2)).cell? ⟨G, 2, none⟩ = some (.map (some M)) := H0.out.G'.L.cell 2
  go_enter Tryz.func70, Tryz.ntmps70
  go_wp2_with (first
    | (at_range; refine wpList_range_own _ rfl _ 107 rfl 2 81 key_law Tryz.underlying107 ptrElem M km D rfl hM0.out ?_; intro w0 hrg0 hg0 hs0)
    | fail)
  clear g2
  go_frame
  simp only [World.size_alloc] at hrg0 hs0 ⊢
  have kold : ∀ b, b < w.heap.size + 1 → w0.heap[b]? = (w.alloc (.cells #[.int .i64 c] 2)).heap[b]? := fun b hb => hg0.block b (by simp only [World.size_alloc]; exact hb) (by simp)
  have bel0 : Below (w.alloc (.cells #[.int .i64 c] 2)).heap.size (w.alloc (.cells #[.int .i64 c] 2)) w0 := below_grown2 (Below.refl _ _) hg0 (fun r e => by cases e) (Nat.le_refl _)
  have H1 := Lib.hid (H0.out.kept bel0)
  have LX1 := Lib.hid (LX.out.kept bel0 LX.out.inside)
  have B1 := Lib.hid (B0'.out.trans (bel0.mono (by simp only [World.size_alloc]; omega)))
  have HR0 := Lib.hid hrg0
  have hz0 : w.heap.size + 1 < w0.heap.size := by omega
  clear hrg0 hg0 kold bel0 H0 LX B0' hM0
  go_loopw [5] (fun _ wr => ∃ (left : Lit → Bool) (cnt : Nat) (qs : List LV), Hid (wr.ranges Tryz.prog 2 ptrElem M (w.heap.size + 1) km D left cnt) ∧ Hid (Ret wr lo G M d o pb cp n qs km k (us.map (·.1)) f) ∧ Hid (EndAt qs f us left c) ∧ Hid (Kept ps qs) ∧ Hid (Apart qs) ∧ Hid (Lies wr w.heap.size 2 #[.int .i64 c]) ∧ Hid (Below B0 w wr) ∧ Hid (∀ z, left z = true → Maps.has D z = true) ∧ w.heap.size + 1 < wr.heap.size ∧ Hid (∀ q ∈ qs, q.g < w.heap.size ∧ ∀ b, q.row b → b < w.heap.size)) (fun _ wr => wr.rangeLeft M (w.heap.size + 1))
  case atStart => exact ⟨_, _, ps, HR0, H1, HST, Kept.refl _, HAP, LX1, B1, fun z hz => hz, hz0, HPB⟩
  case round =>
    obtain ⟨left, cnt, qs, hrg, hU, hE, hK, hA, hX, hB, hL, hsz, hPB⟩ := hrel
    clear HR0 H1 HST HAP LX1 B1 HPB
    go_wp2_with (first
      | (at_next; refine wpList_next_ranges _ rfl _ rfl 2 key_law ptrElem (Value.int .i64) ptrV (fun key kl hk => by obtain ⟨x, h1, _⟩ := keyOf_int_inv Tryz.underlying2 hk; exact ⟨x, h1⟩) (fun v y hv => ptrElem_inv hv) M (w.heap.size + 1) km D left cnt rfl hrg.out ?_ ?_)
      | fail)
    · intro _ hl0
      have HD := Lib.hid (hE.out.done hl0)
      clear hrg hE hL hl0
      go_wp2
      go_end0
      exact ⟨rfl, hB.out, qs, hU.out, HD.out, hK.out⟩
    · intro x cc kl y yp w1 cnt1 hkey hlk hy hat hrg1 hlt hg1 hs1 hen
      obtain ⟨x', hx', hkl, hwx⟩ := keyOf_int_inv Tryz.underlying2 hkey
      injection hx' with _ hx'
      subst hx'
      subst hkl
      have hhas := hL.out _ hlk
      rw [(HKEY.out x).1, HDM.out x, List.contains_iff_mem] at hhas
      obtain ⟨u, hu, hux⟩ := List.mem_map.1 hhas
      obtain ⟨i, hi⟩ := List.getElem?_of_mem hu
      obtain ⟨j, q, e1, e2, e3, e4⟩ := hE.out i u hi
      have hne := HNE.out u hu
      obtain ⟨ux, uw⟩ := u
      simp only at hux e1 e3 e4 hne
      subst hux
      rw [hlk, if_pos rfl] at e4
      have hcc : cc = some q.g := by
        have h1 := hat .nil
        have h2 := ptrElem_ptrV hy
        simp only at h2
        rw [(HKEY.out ux).2, e3, h2] at h1
        cases cc with
        | none => cases h1
        | some g' =>
          simp only [DataW.lit.injEq, Lit.int.injEq, true_and] at h1
          rw [show g' = q.g by omega]
      subst hcc
      have hk1 : ∀ b, b < wr.heap.size → b ≠ w.heap.size + 1 → w1.heap[b]? = wr.heap[b]? := fun b h1 h2 => hg1.block b h1 (fun e => h2 (by injection e))
      have hqm := List.mem_of_getElem? e2
      have hqb := hPB.out q hqm
      have hU1 : Hid (Ret w1 lo G M d o pb cp n qs km k (us.map (·.1)) f) :=
        ⟨hU.out.G'.others (by omega) (hk1 G (by omega) (by omega)) (hk1 pb (by omega) (by omega)) (fun p hp b hb => by
            have h1 := hPB.out p hp
            have h2 : b < w.heap.size := by
              rcases hb with hb | hb
              · rw [← hb]; exact h1.1
              · exact h1.2 b hb
            exact hk1 b (by omega) (by omega)), ownsRow_others hU.out.S (fun b e => hk1 b (by have := HOB.out b e; omega) (by have := HOB.out b e; omega)), hU.out.V, hU.out.M'.block (hk1 M (by omega) (by omega)), hU.out.m, hU.out.ne⟩
      have hX1 : Hid (Lies w1 w.heap.size 2 #[.int .i64 c]) := (hk1 w.heap.size (by omega) (by omega)).trans hX.out
      have hB1' : Hid (Below B0 w w1) := below_grown2 hB.out hg1 (fun r e => by injection e with e; omega) (by omega)
      have hok := hU1.out.G'.P.P q hqm
      have hw0 : 0 < q.wn := by have := hok.W.1; rw [e4] at this; omega
      have hw4 : q.wn ≤ 4 := by have := hok.W.1; rw [e4] at this; omega
      obtain ⟨gw, hwA, hgw⟩ := hok.E hw0
      have hgwi := (hok.inside (Or.inr (Or.inr ⟨hw0, hwA⟩))).2
      have hgww := hqb.2 gw (Or.inr ⟨hw0, hwA⟩)
      have hown : w1.ownsRow lo 2 1 (.slice (some ⟨gw, 0, none⟩) q.wn q.wc) q.wn (uw.map (Value.int .i64)) := by
        have h1 := hok.U hw0
        rw [hwA, e4] at h1; exact h1
      have HOW := Lib.hid hown
      have qc2 : w1.cell? ⟨q.g, 2, none⟩ = some (.slice (some ⟨gw, 0, none⟩) q.wn q.wc) := by
        have h1 : w1.cell? ⟨q.g, 2, none⟩ = some (.slice q.wA q.wn q.wc) := hok.L.cell 2
        rw [hwA] at h1; exact h1
      have hgq : ¬ q.g = gw := fun e => hok.Y (Or.inr ⟨hw0, by rw [hwA, e]⟩)
      have HQ := Lib.hid e2
      have HI := Lib.hid hi
      have HJ := Lib.hid e1
      have HWA := Lib.hid hwA
      have HRG1 := Lib.hid hrg1
      have hL1 : Hid (∀ z, (left z && !z.sameKey (.int .i64 ux)) = true → Maps.has D z = true) := fun z hz => hL.out z (by rw [Bool.and_eq_true] at hz; exact hz.1)
      have hcn : cnt1 < cnt := hlt
      have hen' : (Instr.entry (.pointer (some ⟨w.heap.size + 1, 0, none⟩))).run Tryz.prog w1 = .ok (.tuple #[.int .i64 ux, .pointer (some ⟨q.g, 0, none⟩)]) w1 := hen
      have hML : ¬ M = gw := by omega
      show wpList Tryz.prog _ _ _ _ w1
      simp only [ptrV]
      clear hok hown hrg1 hat hy hlk e2 e1 e3 hi hkey hg1 hen hk1 hU hX hB hL hlt hwA
      go_wp2_with fail
      refine (deleteEnd_any lo gw q.wn q.wc (.pointer (some ⟨w.heap.size, 0, none⟩)) (fun x => x == c) uw _ HOW.out (by omega) (fun w2 hw2 x hx => endOne_any w.heap.size x c w2 ((hw2.lies hX1.out (by show ¬ w.heap.size = gw; omega)).cell 0))).mono ?_
      rintro e w3 ⟨m, rfl, hO3, hT3⟩
      have hs3 := hT3.2.1
      have HX3 := Lib.hid ((hT3.lies hX1.out (by show ¬ w.heap.size = gw; omega)).far (a := ⟨q.g, 2, none⟩) (by show w.heap.size ≠ q.g; omega) (.slice (some ⟨gw, 0, none⟩) m q.wc))
      have HU3 := Lib.hid (hU1.out.thin hA.out HQ.out hw0 HWA.out hT3 hO3)
      have HB3 : Hid (Below B0 w (w3.setCell ⟨q.g, 2, none⟩ (.slice (some ⟨gw, 0, none⟩) m q.wc))) := (hB1'.out.trans (hT3.1 B0 (fun x hx => by subst hx; omega) (by omega))).setCell (p := ⟨q.g, 2, none⟩) (by show B0 ≤ q.g; have := (hU1.out.G'.P.P q (List.mem_of_getElem? HQ.out)).g; omega) _
      have HR3 : Hid ((w3.setCell ⟨q.g, 2, none⟩ (.slice (some ⟨gw, 0, none⟩) m q.wc)).ranges Tryz.prog 2 ptrElem M (w.heap.size + 1) km D (fun z => left z && !z.sameKey (.int .i64 ux)) cnt1) :=
        ranges_block HRG1.out ((heap_setCell_other w3 ⟨q.g, 2, none⟩ M _ (by show M ≠ q.g; have := (hU1.out.G'.P.P q (List.mem_of_getElem? HQ.out)).g; omega)).trans (hT3.2.2 M (by omega) hML)) ((heap_setCell_other w3 ⟨q.g, 2, none⟩ (w.heap.size + 1) _ (by show w.heap.size + 1 ≠ q.g; omega)).trans (hT3.2.2 (w.heap.size + 1) (by omega) (by show ¬ w.heap.size + 1 = gw; omega)))
      have HE3 : Hid (EndAt (qs.set j (q.thin m (uw.filter (fun x => !(x == c))))) f us (fun z => left z && !z.sameKey (.int .i64 ux)) c) := hE.out.step HDF.out HI.out HJ.out HQ.out
      have HK3 : Hid (Kept ps (qs.set j (q.thin m (uw.filter (fun x => !(x == c)))))) := hK.out.thin HQ.out
      have HA3 : Hid (Apart (qs.set j (q.thin m (uw.filter (fun x => !(x == c)))))) := hA.out.thin HQ.out hw0
      have HP3 : Hid (∀ p ∈ qs.set j (q.thin m (uw.filter (fun x => !(x == c)))), p.g < w.heap.size ∧ ∀ b, p.row b → b < w.heap.size) := by
        intro p hp
        rcases List.mem_or_eq_of_mem_set hp with hp | rfl
        · exact hPB.out p hp
        · exact ⟨hqb.1, fun b hb => hqb.2 b (LV.thin_row hw0 hb)⟩
      have L3 := Lib.hid (hT3.lies (hU1.out.G'.P.P q (List.mem_of_getElem? HQ.out)).L (by show ¬ q.g = gw; exact hgq))
      have s2 : w3.cell? ⟨q.g, 2, none⟩ = some (.slice q.wA q.wn q.wc) := L3.out.cell 2
      have f2 : w3.frozen? ⟨q.g, 2, none⟩ = false := L3.out.thawed 2
      have hsz3 : w.heap.size + 1 < (w3.setCell ⟨q.g, 2, none⟩ (.slice (some ⟨gw, 0, none⟩) m q.wc)).heap.size := by rw [size_of_setCell]; omega
      clear hO3 hT3 hE hK hA hPB hU1 hX1 hB1' HRG1 qc2 L3
      go_wp2
      go_roundw
      case rel => exact ⟨_, cnt1, _, HR3, HU3, HE3, HK3, HA3, HX3, HB3, hL1, hsz3, HP3⟩
      case measure => rw [HR3.out.left_eq, hrg.out.left_eq]; exact hcn

end Go.Proofs.YtpgoildfjkokiaaGreat
