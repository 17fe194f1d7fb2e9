/- The walks of impl.watchFault, impl.ground's retiredFault and isRetired, and of slices.Clone at numbers. -/
import Derived.Test.YtblhcnafoejahaaGreatPMap
import Derived.Test.YtblhcnafoejahaaGreatUnion
import Derived.Lib.SliceRun
import Derived.Maps.OwnOps
namespace Go.Proofs.YtblhcnafoejahaaGreat
open Go.RowKit

set_option maxHeartbeats 800000 in
theorem watchFault_any (n c lo : Nat) (A : Option Addr) (xs : List Int) (w : World) (hp : Ints w lo A n xs) (hn : n ≤ maxLen) :
    Calls Tryz.prog 63 #[.slice A n c] w fun e w' => e = .returned (.int .i64 (watchF xs)) ∧ Below w.heap.size w w' := by
  have HP := Lib.hid hp
  have HL : Hid (xs.length = n) := hp.1
  clear hp
  by_cases hm : 4 < n
  · have HF := Lib.hid (watchF_many (ws := xs) (by rw [HL.out]; exact hm))
    have hm' : (4 : Int) < (n : Int) := by omega
    go_enter Tryz.func63, Tryz.ntmps63
    go_wp2
    go_ret
    exact ⟨ret_i64 HF.out.symm, Below.refl _ _⟩
  have HM : Hid (¬ 4 < xs.length) := by show ¬ _; rw [HL.out]; exact hm
  have hm' : ¬ (4 : Int) < (n : Int) := by omega
  cases hr : allIn 0 3 xs
  · have HF := Lib.hid (watchF_out HM.out hr)
    have HR := Lib.hid hr
    clear hr
    go_enter Tryz.func63, Tryz.ntmps63
    go_wp2_with fail
    refine (within_is _ _ _ _ _ _ xs _ false HR.out HP.out hn).mono ?_
    rintro e w' ⟨rfl, rfl⟩
    go_wp2
    go_ret
    exact ⟨ret_i64 HF.out.symm, Below.refl _ _⟩
  have HF := Lib.hid (watchF_in HM.out hr)
  have HR := Lib.hid hr
  clear hr
  go_enter Tryz.func63, Tryz.ntmps63
  go_wp2_with fail
  refine (within_is _ _ _ _ _ _ xs _ true HR.out HP.out hn).mono ?_
  rintro e w' ⟨rfl, rfl⟩
  go_wp2_with fail
  refine (rises_any _ _ _ _ xs _ HP.out hn).mono ?_
  rintro e W1 ⟨rfl, b1⟩
  have B := Lib.hid b1
  clear b1
  cases hs : risesL xs
  · have HF2 : Hid (watchF xs = 1) := by show watchF _ = _; rw [HF.out, hs]; rfl
    clear hs
    go_wp2
    go_ret
    exact ⟨ret_i64 HF2.out.symm, B.out⟩
  · have HF2 : Hid (watchF xs = 0) := by show watchF _ = _; rw [HF.out, hs]; rfl
    clear hs
    go_wp2
    go_ret
    exact ⟨ret_i64 HF2.out.symm, B.out⟩

set_option maxRecDepth 100000 in
set_option maxHeartbeats 1600000 in
theorem cloneInts_any (n c lo : Nat) (A : Option Addr) (xs : List Int) (w : World) (hp : Ints w lo A n xs) (h0 : 0 < n) (hn : n ≤ 1048576) :
    Calls Tryz.prog 64 #[.slice A n c] w fun e w' => ∃ g cap, e = .returned (.slice (some ⟨g, 0, none⟩) n cap) ∧ Ints w' w.heap.size (some ⟨g, 0, none⟩) n xs ∧ Below w.heap.size w w' := by
  have HP := Lib.hid hp
  obtain ⟨hl, hr⟩ := hp
  obtain ⟨b, o, rfl, hlo, hb, hc⟩ := hr h0
  obtain ⟨i0, hi0, hz0, hz1, hz2⟩ := info_parts_i64
  have B := Lib.hid (below_alloc w (.cells #[] 2))
  have hown : Hid ((w.alloc (.cells #[] 2)).ownsRow w.heap.size 2 1 (.slice (some ⟨w.heap.size, 0, none⟩) 0 0) 0 []) := ⟨rfl, Or.inr ⟨w.heap.size, 0, #[], rfl, Nat.le_refl _, heap_alloc_new w _, Nat.le_refl _, Nat.zero_le _, rfl, rfl⟩⟩
  have hnews : Hid (∀ (j : Nat) (u : Value), (xs.map (Value.int .i64))[j]? = some u → (w.alloc (.cells #[] 2)).cell? ((⟨b, o, none⟩ : Addr).add j) = some u) := by
    intro j u hj
    rw [add_none, B.out.cell (p := ⟨b, o + j, none⟩) hb]
    rw [List.getElem?_map] at hj
    obtain ⟨x, hx, rfl⟩ := Option.map_eq_some_iff.1 hj
    exact hc j x hx
  have HL := Lib.hid hl
  have IP := Lib.hid (And.intro hi0 (And.intro hz0 (And.intro hz1 hz2)))
  clear hr hc hl hi0 hz0 hz1 hz2
  have heq := fun w => Lib.run_eql_slice_nil (P := Tryz.prog) w 23 2 (some ⟨b, o, none⟩) n c 0 0 Tryz.underlying23
  simp only [Option.isNone_some] at heq
  go_enter Tryz.func64, Tryz.ntmps64
  go_wp2_with (with_reducible refine wpList_append_lies _ rfl (.tmp 5) (.tmp 6) 23 rfl w.heap.size 2 i0 (.int .i64 0) 1 8 Tryz.underlying23 IP.out.1 IP.out.2.1 IP.out.2.2.1 IP.out.2.2.2 rfl (by omega) (.slice (some ⟨w.heap.size, 0, none⟩) 0 0) 0 [] rfl hown.out ⟨b, o, none⟩ n c (xs.map (Value.int .i64)) rfl ?q1 hnews.out ?q2 h0 ?q3 ?q4 ?q5 (w.heap.size + 1) ?q6 ?_)
  case q1 => rw [List.length_map, HL.out, Nat.mul_one]
  case q2 => intro u hu; obtain ⟨x, _, rfl⟩ := List.mem_map.1 hu; rfl
  case q3 => unfold maxLen; omega
  case q4 => omega
  case q5 => simp
  case q6 => simp
  intro g cap w' ho hg hat hlt
  have HO : Hid (w'.ownsRow w.heap.size 2 1 (.slice (some ⟨g, 0, none⟩) n cap) n (xs.map (Value.int .i64))) := by show World.ownsRow _ _ _ _ _ _ _; simpa using ho
  have HB := Lib.hid (below_grown2 B.out hg (fun r e => by simp [Value.ownBlock] at e; omega) B.out.size)
  obtain ⟨A', c', e', hI⟩ := ints_of_owns HO.out
  injection e' with e1 e2 e3
  subst e1 e3
  have HI := Lib.hid hI
  clear ho hg hat hI
  go_wp2
  go_ret
  exact ⟨g, ⟨cap, by simp⟩, HI.out, HB.out⟩

set_option maxRecDepth 100000 in
set_option maxHeartbeats 400000 in
theorem isRetired_any (G M k : Nat) (id : Int) (f : Int → Option Nat) (w : World) (hc : w.cell? ⟨G, 2, none⟩ = some (.map (some M))) (hM : PMap w M k f) (hid : (Lit.int .i64 id).wf = true) :
    Calls Tryz.prog 51 #[.pointer (some ⟨G, 0, none⟩), .int .i64 id] w fun e w' => e = .returned (.bool (f id).isSome) ∧ w = w' := by
  have hl := hM.look hid
  clear hM hid
  cases hf : f id with
  | none =>
    rw [hf] at hl
    simp only [Option.isSome_none] at hl ⊢
    clear hf
    go_enter Tryz.func51, Tryz.ntmps51
    go_wp2
    go_ret
    exact ⟨rfl, rfl⟩
  | some g =>
    rw [hf] at hl
    simp only [Option.isSome_some] at hl ⊢
    clear hf
    go_enter Tryz.func51, Tryz.ntmps51
    go_wp2
    go_ret
    exact ⟨rfl, rfl⟩

end Go.Proofs.YtblhcnafoejahaaGreat

/- The walks of impl.ground's retiredFault and retire. -/
namespace Go.Proofs.YtblhcnafoejahaaGreat
open Go.RowKit

theorem Ints.drew' {w : World} {lo n : Nat} {A : Option Addr} {xs : List Int} (h : Ints w lo A n xs) : Ints w.drew lo A n xs := h
theorem ownsRow_away {w : World} {base : Nat} {e : TypeId} {size : Nat} {v : Value} {n : Nat} {xs : List Value} (h : w.ownsRow base e size v n xs) {a : Addr} (ha : ∀ r, v.ownBlock = some r → r ≠ a.block) (u : Value) : (w.setCell a u).ownsRow base e size v n xs := by
  obtain ⟨hl, h⟩ := h
  refine ⟨hl, ?_⟩
  rcases h with h | ⟨g, cap, cur, rfl, h2, h3, h4⟩
  · exact Or.inl h
  · exact Or.inr ⟨g, cap, cur, rfl, h2, (heap_setCell_other w a g u (ha g rfl)).trans h3, h4⟩
theorem allIn_two {l h x : Int} : allIn l h [x] = decide (l ≤ x ∧ x ≤ h) := by
  unfold allIn; simp

set_option maxRecDepth 100000 in
set_option maxHeartbeats 3200000 in
theorem retiredFault_any (G pb cp n k1 e1 : Nat) (id : Int) (X1 : Option Addr) (ws : List Int) (w : World) (hc : w.cell? ⟨G, 1, none⟩ = some (.slice (some ⟨pb, 0, none⟩) n cp)) (hGi : G < w.heap.size) (hI : Ints w 0 X1 k1 ws) (hn : n ≤ 40) (hk1 : k1 ≤ maxLen) :
    Calls Tryz.prog 50 #[.pointer (some ⟨G, 0, none⟩), .agg #[.int .i64 id, .slice X1 k1 e1]] w fun e w' => e = .returned (.int .i64 (retF n (id, ws))) ∧ Below w.heap.size w w' := by
  have HI := Lib.hid hI
  have HW : Hid (ws.length = k1) := hI.1
  clear hI
  have B := Lib.hid (below_alloc w (.cells #[.int .i64 id, .slice X1 k1 e1] 48))
  have L_r := Lib.hid (Lies.new w 48 #[.int .i64 id, .slice X1 k1 e1])
  have C := Lib.hid ((B.out.cell (p := ⟨G, 1, none⟩) hGi).trans hc)
  have R0 : Hid (∀ v : Bool, decide (0 ≤ id ∧ id ≤ (n : Int) - 1) = v → allIn 0 ((n : Int) - 1) [id] = v) := fun v h => allIn_two.trans h
  go_enter Tryz.func50, Tryz.ntmps50
  go_wp2
  generalize hW : (w.alloc (.cells #[.int .i64 id, .slice X1 k1 e1] 48)) = W0 at *
  have hW0 : W0.heap.size = w.heap.size + 1 := by rw [← hW]; simp only [World.size_alloc]
  clear hW hc
  have r0 : W0.cell? ⟨w.heap.size, 0, none⟩ = some (.int .i64 id) := L_r.out.cell 0
  have ca : (W0.alloc (.cells #[.int .i64 id] 2)).cell? ⟨G, 1, none⟩ = some (.slice (some ⟨pb, 0, none⟩) n cp) := ((below_alloc W0 _).cell (p := ⟨G, 1, none⟩) (show G < W0.heap.size by omega)).trans C.out
  have B1 := Lib.hid (B.out.alloc B.out.size (.cells #[.int .i64 id] 2))
  have L1 := Lib.hid (L_r.out.alloc (.cells #[.int .i64 id] 2))
  have ONE : Hid (Ints (W0.alloc (.cells #[.int .i64 id] 2)) (w.heap.size + 1) (some ⟨w.heap.size + 1, 0, none⟩) 1 [id]) := by have h := one_ints W0 id; rw [hW0] at h; exact h
  have ONED := Lib.hid ONE.out.drew'
  cases hr : decide (0 ≤ id ∧ id ≤ (n : Int) - 1)
  · have HF : Hid (retF n (id, ws) = 3) := retF_out (by simpa using hr)
    have HR := Lib.hid (R0.out false hr)
    clear hr R0
    go_region_law
      (first
        | (go_simp; go_at_call 46; refine (last_any G pb cp n _ (by (try simp only [World.cell?_drew]); first | with_reducible exact C.out | with_reducible exact ca) hn).mono ?_; rintro e w' ⟨rfl, rfl⟩; dsimp only)
        | (go_simp; go_at_call 44; refine (within_is _ _ _ _ _ _ [id] _ false HR.out ONED.out (by decide)).mono ?_; rintro e w' ⟨rfl, rfl⟩; dsimp only))
    all_goals
      go_wp2
      go_ret
      refine ⟨ret_i64 HF.out.symm, ?_⟩
      with_reducible (repeat (first | exact B1.out | refine Below.drew ?_))
  have HIN := of_decide_eq_true hr
  have HR := Lib.hid (R0.out true hr)
  clear hr R0
  by_cases h0 : k1 = 0
  · have HF : Hid (retF n (id, ws) = 2) := retF_none HIN (by rw [HW.out]; exact h0)
    have h0' : ((k1 : Int) == 0) = true := by simp [h0]
    have HIN' := Lib.hid HIN
    clear HIN
    go_region_law
      (first
        | (go_simp; go_at_call 46; refine (last_any G pb cp n _ (by (try simp only [World.cell?_drew]); first | with_reducible exact C.out | with_reducible exact ca) hn).mono ?_; rintro e w' ⟨rfl, rfl⟩; dsimp only)
        | (go_simp; go_at_call 44; refine (within_is _ _ _ _ _ _ [id] _ true HR.out ONED.out (by decide)).mono ?_; rintro e w' ⟨rfl, rfl⟩; dsimp only))
    all_goals
      have r1 : (W0.alloc (.cells #[.int .i64 id] 2)).cell? ⟨w.heap.size, 1, none⟩ = some (.slice X1 k1 e1) := L1.out.cell 1
      go_wp2
      go_ret
      refine ⟨ret_i64 HF.out.symm, ?_⟩
      with_reducible (repeat (first | exact B1.out | refine Below.drew ?_))
  have HF := Lib.hid (retF_watch (n := n) (r := (id, ws)) HIN (by show ¬ ws.length = 0; rw [HW.out]; exact h0))
  have h0' : ((k1 : Int) == 0) = false := by simp [h0]
  clear HIN h0
  go_region_law
    (first
      | (go_simp; go_at_call 46; refine (last_any G pb cp n _ (by (try simp only [World.cell?_drew]); first | with_reducible exact C.out | with_reducible exact ca) hn).mono ?_; rintro e w' ⟨rfl, rfl⟩; dsimp only)
      | (go_simp; go_at_call 44; refine (within_is _ _ _ _ _ _ [id] _ true HR.out ONED.out (by decide)).mono ?_; rintro e w' ⟨rfl, rfl⟩; dsimp only))
  all_goals
    have r1 : (W0.alloc (.cells #[.int .i64 id] 2)).cell? ⟨w.heap.size, 1, none⟩ = some (.slice X1 k1 e1) := L1.out.cell 1
    have BD := Lib.hid B1.out.drew
    go_wp2_with fail
    refine (watchFault_any _ _ _ _ ws _ (HI.out.kept BD.out) hk1).mono ?_
    rintro e W2 ⟨rfl, b2⟩
    have B2 := Lib.hid (BD.out.trans (b2.mono BD.out.size))
    clear b2
    go_wp2
    go_ret
    exact ⟨ret_i64 HF.out.symm, B2.out⟩

section
variable {w w' : World} {lo G pb cp n : Nat} {d : Int} {m o : Value} {ps : List LV}
theorem Grd.others (h : Grd w lo G d m o pb cp n ps) (hs : w.heap.size ≤ w'.heap.size) (hG : w'.heap[G]? = w.heap[G]?) (hpb : w'.heap[pb]? = w.heap[pb]?) (hp : ∀ p ∈ ps, ∀ b, p.has b → w'.heap[b]? = w.heap[b]?) : Grd w' lo G d m o pb cp n ps :=
  ⟨hG.trans h.L, h.P.others hs hp, ⟨h.R.l, fun k p hk => (World.cell?_of_block (w := w) (a := ⟨pb, k, none⟩) hpb).trans (h.R.c k p hk), ⟨h.R.i.1, Nat.lt_of_lt_of_le h.R.i.2 hs⟩, h.R.x⟩, h.g⟩
end

/-- An arena that is worked at, with its map of the retired places and their order. -/
structure Ret (w : World) (lo G M : Nat) (d : Int) (o : Value) (pb cp n : Nat) (ps : List LV) (km k : Nat) (ids : List Int) (f : Int → Option Nat) : Prop where
  G' : Grd w lo G d (.map (some M)) o pb cp n ps
  S : w.ownsRow lo 2 1 o k (ids.map (Value.int .i64))
  V : ∀ b, o.ownBlock = some b → b ≠ pb ∧ ∀ p ∈ ps, ¬ p.has b
  M' : PMap w M km f
  m : M < lo
  ne : M ≠ G
section
variable {w w' W1 : World} {lo G M pb cp n km k : Nat} {d : Int} {o : Value} {ps : List LV} {ids : List Int} {f : Int → Option Nat}
theorem Ret.kept (h : Ret w lo G M d o pb cp n ps km k ids f) (hb : Below w.heap.size w w') : Ret w' lo G M d o pb cp n ps km k ids f :=
  ⟨h.G'.kept hb, ownsRow_below h.S hb, h.V, h.M'.kept hb, h.m, h.ne⟩
/-- Who watches is written into a place. -/
theorem Ret.watch {j g5 n1 cap : Nat} {p : LV} {xs : List Int} (h : Ret w lo G M d o pb cp n ps km k ids f) (hb : Below w.heap.size w W1) (hi : ps[j]? = some p) (hI : Ints W1 w.heap.size (some ⟨g5, 0, none⟩) n1 xs) (h0 : 0 < n1) (hlo : lo ≤ w.heap.size) :
    Ret (W1.setCell ⟨p.g, 2, none⟩ (.slice (some ⟨g5, 0, none⟩) n1 cap)) lo G M d o pb cp n (ps.set j { p with wA := some ⟨g5, 0, none⟩, wn := n1, wc := cap, ws := xs }) km k ids f := by
  have h1 := h.kept hb
  have hp0 := h.G'.P.P p (List.mem_of_getElem? hi)
  have hp := h1.G'.P.P p (List.mem_of_getElem? hi)
  have hpg := hp.g
  have hpi := hp0.L.inside
  have hm := h.m
  have hg5 : w.heap.size ≤ g5 ∧ g5 < W1.heap.size := by
    obtain ⟨b, o', e, h2, h3, _⟩ := hI.2 h0
    injection e with e; injection e with e
    omega
  have hs5 : W1.heap.size ≤ (W1.setCell ⟨p.g, 2, none⟩ (.slice (some ⟨g5, 0, none⟩) n1 cap)).heap.size := Nat.le_of_eq (size_of_setCell _ _ _).symm
  have hk5 : ∀ b, b < W1.heap.size → b ≠ p.g → (W1.setCell ⟨p.g, 2, none⟩ (.slice (some ⟨g5, 0, none⟩) n1 cap)).heap[b]? = W1.heap[b]? := fun b _ hne => heap_setCell_other W1 ⟨p.g, 2, none⟩ b _ hne
  have rowp : ∀ b, LV.row { p with wA := some ⟨g5, 0, none⟩, wn := n1, wc := cap, ws := xs } b → p.row b ∨ b = g5 := by
    rintro b (⟨a1, a2⟩ | ⟨a1, a2⟩)
    · exact Or.inl (Or.inl ⟨a1, a2⟩)
    · injection a2 with a2; injection a2 with a2; exact Or.inr a2.symm
  have hF5 : Fresh lo (some ⟨g5, 0, none⟩) n1 := fun _ => ⟨g5, rfl, by omega⟩
  have POK : PlaceOk (W1.setCell ⟨p.g, 2, none⟩ (.slice (some ⟨g5, 0, none⟩) n1 cap)) lo d { p with wA := some ⟨g5, 0, none⟩, wn := n1, wc := cap, ws := xs } := by
    refine ⟨hp.L.set 2 _, hp.S.block hp.F hs5 (fun b h0 e => hk5 b (Fresh.in_slots hp.S h0 e) (fun e' => hp.Y (Or.inl ⟨h0, e' ▸ e⟩))), hp.O, hp.N, ?_, hp.g, hp.F, hF5, fun hy => ?_⟩
    · exact (hI.lower (Nat.zero_le _)).blockF hF5 hs5 (fun b _ e => hk5 b (by injection e with e; injection e with e; omega) (by injection e with e; injection e with e; omega))
    · rcases rowp _ hy with h2 | h2
      · exact hp.Y h2
      · simp only at h2; omega
  have vb : ∀ b, o.ownBlock = some b → b ≠ p.g := fun b e e' => (h.V b e).2 p (List.mem_of_getElem? hi) (Or.inl e'.symm)
  refine ⟨?_, ownsRow_away h1.S (fun r e => by show r ≠ p.g; exact vb r e) _, fun b e => ⟨(h.V b e).1, fun q hq => ?_⟩, h1.M'.block (hk5 M h1.M'.inside (by omega)), h.m, h.ne⟩
  · refine h.G'.put hi rfl (Nat.le_trans hb.size hs5) (fun b h2 h3 => (hk5 b (Nat.lt_of_lt_of_le h2 hb.size) h3).trans (hb.block b h2)) POK (fun b hb' => ?_)
    rcases rowp b hb' with h2 | h2
    · exact Or.inl h2
    · exact Or.inr (by omega)
  · have hbs := (ownsRow_block2 h.S b e).2
    rcases List.mem_or_eq_of_mem_set hq with hq | rfl
    · exact (h.V b e).2 q hq
    · rintro (e' | e')
      · exact vb b e e'.symm
      · rcases rowp _ e' with h2 | h2
        · exact (h.V b e).2 p (List.mem_of_getElem? hi) (Or.inr h2)
        · omega
end
end Go.Proofs.YtblhcnafoejahaaGreat
