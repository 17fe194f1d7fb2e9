/- A map from numbers to places: what it is in memory, a look-up and a store. -/
import Derived.Test.YtpgoildfjkokiaaGreatFreeAll
import Derived.Maps.Own
import Derived.Maps.OwnSet
import Derived.Maps.Views
import Derived.Test.YtpgoildfjkokiaaGreatUnion
import Derived.Lib.SliceRun
import Derived.Maps.OwnOps
namespace Go.Proofs.YtpgoildfjkokiaaGreat
open Go.RowKit Go.Maps

/-- How a pointer reads: by its block's number. -/
def ptrElem : Value → Option (DataW Unit × List MemPlace)
  | .pointer (some ⟨g, 0, none⟩) => some (.lit (.int .i64 g), [])
  | .pointer none => some (.nil, [])
  | _ => none
theorem ptrElem_lit {v : Value} {g : Nat} {ps : List MemPlace} (h : ptrElem v = some (.lit (.int .i64 g), ps)) : v = .pointer (some ⟨g, 0, none⟩) := by
  unfold ptrElem at h
  split at h
  · rename_i g'
    simp only [Option.some.injEq, Prod.mk.injEq, DataW.lit.injEq, Lit.int.injEq, true_and] at h
    have : g' = g := by omega
    rw [this]
  · simp at h
  · simp at h
theorem ptrElem_nil {v : Value} {ps : List MemPlace} (h : ptrElem v = some (.nil, ps)) : v = .pointer none := by
  unfold ptrElem at h
  split at h
  · simp at h
  · rfl
  · simp at h
theorem key_law : Keyed Tryz.prog 2 := int_keyed Tryz.underlying2
theorem zero_ptr (w : World) : (zeroValue 81).run Tryz.prog w = .ok (.pointer none) w := by kernel_rfl

/-- Block M is a map of at most k entries: f tells the place at a number. -/
def PMap (w : World) (M k : Nat) (f : Int → Option Nat) : Prop :=
  ∃ D : DataW Unit, w.ownsMap Tryz.prog 2 ptrElem M k D ∧ IsMap D ∧ ∀ id : Int, Maps.has D (.int .i64 id) = (f id).isSome ∧ D.atKey (.int .i64 id) .nil = match f id with | some g => .lit (.int .i64 (g : Int)) | none => .nil
section
variable {w w' : World} {M k : Nat} {f : Int → Option Nat}
theorem PMap.block (h : PMap w M k f) (hb : w'.heap[M]? = w.heap[M]?) : PMap w' M k f := by
  obtain ⟨D, ⟨es, clock, h1, h2⟩, h3⟩ := h
  exact ⟨D, ⟨es, clock, hb.trans h1, h2⟩, h3⟩
theorem PMap.inside (h : PMap w M k f) : M < w.heap.size := by
  obtain ⟨D, ⟨es, clock, h1, h2⟩, h3⟩ := h
  rcases Nat.lt_or_ge M w.heap.size with h' | h'
  · exact h'
  · exact absurd (h1.symm.trans (Array.getElem?_eq_none h')) (by simp)
theorem PMap.kept (h : PMap w M k f) (hb : Below w.heap.size w w') : PMap w' M k f := h.block (hb.block M h.inside)
theorem PMap.made (w : World) : PMap (w.alloc (.map #[] 0)) w.heap.size 0 (fun _ => none) :=
  ⟨.map [], World.ownsMap_made w _ _ _, ⟨[], rfl⟩, fun id => ⟨rfl, rfl⟩⟩
theorem PMap.look (h : PMap w M k f) {id : Int} (hid : (Lit.int .i64 id).wf = true) : (Instr.lookup 107 (.map (some M)) (.int .i64 id) true).run Tryz.prog w = .ok (.tuple #[match f id with | some g => .pointer (some ⟨g, 0, none⟩) | none => .pointer none, .bool (f id).isSome]) w := by
  obtain ⟨D, h1, h2, h3⟩ := h
  obtain ⟨v, ps, hrun, hv⟩ := h1.look_ok key_law Tryz.underlying107 (zero_ptr w) (zd := .nil) (zp := []) rfl (keyOf_int_mk Tryz.underlying2 hid)
  rw [hrun, (h3 id).1]
  rw [(h3 id).2] at hv
  cases hf : f id with
  | none => rw [hf] at hv; rw [ptrElem_nil hv]
  | some g => rw [hf] at hv; rw [ptrElem_lit hv]
theorem PMap.store (h : PMap w M k f) (hk : k < maxLen) {id : Int} (hid : (Lit.int .i64 id).wf = true) (g : Nat) : ∃ w', (Instr.mapUpdate 107 (.map (some M)) (.int .i64 id) (.pointer (some ⟨g, 0, none⟩))).run Tryz.prog w = .ok () w' ∧ PMap w' M (k + 1) (fun x => if x = id then some g else f x) ∧ w.grownBy w' (some M) := by
  obtain ⟨D, h1, h2, h3⟩ := h
  obtain ⟨w', hrun, r1, r2⟩ := h1.update key_law Tryz.underlying107 hk (keyOf_int_mk Tryz.underlying2 hid) (val := .pointer (some ⟨g, 0, none⟩)) (d := .lit (.int .i64 g)) (ps := []) rfl
  refine ⟨w', hrun, ⟨D.put (.int .i64 id) (.lit (.int .i64 g)), r1, r1.isMap, fun x => ?_⟩, r2⟩
  by_cases hx : x = id
  · subst hx
    simp only [if_true]
    have hk' : WideAt.IsKeyLit (Lit.int .i64 x) := by trivial
    exact ⟨has_put_same h2 hk' _, atKey_put_same h2 hk' _ _⟩
  · simp only [if_neg hx]
    have hne : (Lit.int .i64 x) ≠ (Lit.int .i64 id) := fun e => hx (by injection e)
    rw [has_put_other hne, atKey_put_other hne]
    exact h3 x
end

end Go.Proofs.YtpgoildfjkokiaaGreat

/- The walks of impl.watchFault, impl.ground's retiredFault and isRetired, and of slices.Clone at numbers. -/
namespace Go.Proofs.YtpgoildfjkokiaaGreat
open Go.RowKit

set_option maxHeartbeats 800000 in
theorem watchFault_any (n c lo : Nat) (A : Option Addr) (xs : List Int) (w : World) (hp : Ints w lo A n xs) (hn : n ≤ maxLen) :
    Calls Tryz.prog 63 #[.slice A n c] w fun e w' => e = .returned (.int .i64 (watchF xs)) ∧ Below w.heap.size w w' := by
  have HP := Lib.hid hp
  have HL : Hid (xs.length = n) := hp.1
  clear hp
  by_cases hm : 4 < n
  · have HF := Lib.hid (watchF_many (ws := xs) (by rw [HL.out]; exact hm))
    have hm' : (4 : Int) < (n : Int) := by omega
    go_enter Tryz.func63, Tryz.ntmps63
    go_wp2
    go_ret
    exact ⟨ret_i64 HF.out.symm, Below.refl _ _⟩
  have HM : Hid (¬ 4 < xs.length) := by show ¬ _; rw [HL.out]; exact hm
  have hm' : ¬ (4 : Int) < (n : Int) := by omega
  cases hr : allIn 0 3 xs
  · have HF := Lib.hid (watchF_out HM.out hr)
    have HR := Lib.hid hr
    clear hr
    go_enter Tryz.func63, Tryz.ntmps63
    go_wp2_with fail
    refine (within_is _ _ _ _ _ _ xs _ false HR.out HP.out hn).mono ?_
    rintro e w' ⟨rfl, rfl⟩
    go_wp2
    go_ret
    exact ⟨ret_i64 HF.out.symm, Below.refl _ _⟩
  have HF := Lib.hid (watchF_in HM.out hr)
  have HR := Lib.hid hr
  clear hr
  go_enter Tryz.func63, Tryz.ntmps63
  go_wp2_with fail
  refine (within_is _ _ _ _ _ _ xs _ true HR.out HP.out hn).mono ?_
  rintro e w' ⟨rfl, rfl⟩
  go_wp2_with fail
  refine (rises_any _ _ _ _ xs _ HP.out hn).mono ?_
  rintro e W1 ⟨rfl, b1⟩
  have B := Lib.hid b1
  clear b1
  cases hs : risesL xs
  · have HF2 : Hid (watchF xs = 1) := by show watchF _ = _; rw [HF.out, hs]; rfl
    clear hs
    go_wp2
    go_ret
    exact ⟨ret_i64 HF2.out.symm, B.out⟩
  · have HF2 : Hid (watchF xs = 0) := by show watchF _ = _; rw [HF.out, hs]; rfl
    clear hs
    go_wp2
    go_ret
    exact ⟨ret_i64 HF2.out.symm, B.out⟩

set_option maxRecDepth 100000 in
set_option maxHeartbeats 1600000 in
theorem cloneInts_any (n c lo : Nat) (A : Option Addr) (xs : List Int) (w : World) (hp : Ints w lo A n xs) (h0 : 0 < n) (hn : n ≤ 1048576) :
    Calls Tryz.prog 99 #[.slice A n c] w fun e w' => ∃ g cap, e = .returned (.slice (some ⟨g, 0, none⟩) n cap) ∧ Ints w' w.heap.size (some ⟨g, 0, none⟩) n xs ∧ Below w.heap.size w w' ∧ w'.ownsRow w.heap.size 2 1 (.slice (some ⟨g, 0, none⟩) n cap) n (xs.map (Value.int .i64)) := by
  have HP := Lib.hid hp
  obtain ⟨hl, hr⟩ := hp
  obtain ⟨b, o, rfl, hlo, hb, hc⟩ := hr h0
  obtain ⟨i0, hi0, hz0, hz1, hz2⟩ := info_parts_i64
  have B := Lib.hid (below_alloc w (.cells #[] 2))
  have hown : Hid ((w.alloc (.cells #[] 2)).ownsRow w.heap.size 2 1 (.slice (some ⟨w.heap.size, 0, none⟩) 0 0) 0 []) := ⟨rfl, Or.inr ⟨w.heap.size, 0, #[], rfl, Nat.le_refl _, heap_alloc_new w _, Nat.le_refl _, Nat.zero_le _, rfl, rfl⟩⟩
  have hnews : Hid (∀ (j : Nat) (u : Value), (xs.map (Value.int .i64))[j]? = some u → (w.alloc (.cells #[] 2)).cell? ((⟨b, o, none⟩ : Addr).add j) = some u) := by
    intro j u hj
    rw [add_none, B.out.cell (p := ⟨b, o + j, none⟩) hb]
    rw [List.getElem?_map] at hj
    obtain ⟨x, hx, rfl⟩ := Option.map_eq_some_iff.1 hj
    exact hc j x hx
  have HL := Lib.hid hl
  have IP := Lib.hid (And.intro hi0 (And.intro hz0 (And.intro hz1 hz2)))
  clear hr hc hl hi0 hz0 hz1 hz2
  have heq := fun w => Lib.run_eql_slice_nil (P := Tryz.prog) w 23 2 (some ⟨b, o, none⟩) n c 0 0 Tryz.underlying23
  simp only [Option.isNone_some] at heq
  go_enter Tryz.func99, Tryz.ntmps99
  go_wp2_with (with_reducible refine wpList_append_lies _ rfl (.tmp 5) (.tmp 6) 23 rfl w.heap.size 2 i0 (.int .i64 0) 1 8 Tryz.underlying23 IP.out.1 IP.out.2.1 IP.out.2.2.1 IP.out.2.2.2 rfl (by omega) (.slice (some ⟨w.heap.size, 0, none⟩) 0 0) 0 [] rfl hown.out ⟨b, o, none⟩ n c (xs.map (Value.int .i64)) rfl ?q1 hnews.out ?q2 h0 ?q3 ?q4 ?q5 (w.heap.size + 1) ?q6 ?_)
  case q1 => rw [List.length_map, HL.out, Nat.mul_one]
  case q2 => intro u hu; obtain ⟨x, _, rfl⟩ := List.mem_map.1 hu; rfl
  case q3 => unfold maxLen; omega
  case q4 => omega
  case q5 => simp
  case q6 => simp
  intro g cap w' ho hg hat hlt
  have HO : Hid (w'.ownsRow w.heap.size 2 1 (.slice (some ⟨g, 0, none⟩) n cap) n (xs.map (Value.int .i64))) := by show World.ownsRow _ _ _ _ _ _ _; simpa using ho
  have HB := Lib.hid (below_grown2 B.out hg (fun r e => by simp [Value.ownBlock] at e; omega) B.out.size)
  obtain ⟨A', c', e', hI⟩ := ints_of_owns HO.out
  injection e' with e1 e2 e3
  subst e1 e3
  have HI := Lib.hid hI
  clear ho hg hat hI
  go_wp2
  go_ret
  exact ⟨g, cap, by simp, HI.out, HB.out, HO.out⟩

set_option maxRecDepth 100000 in
set_option maxHeartbeats 400000 in
theorem isRetired_any (G M k : Nat) (id : Int) (f : Int → Option Nat) (w : World) (hc : w.cell? ⟨G, 2, none⟩ = some (.map (some M))) (hM : PMap w M k f) (hid : (Lit.int .i64 id).wf = true) :
    Calls Tryz.prog 62 #[.pointer (some ⟨G, 0, none⟩), .int .i64 id] w fun e w' => e = .returned (.bool (f id).isSome) ∧ w = w' := by
  have hl := hM.look hid
  clear hM hid
  cases hf : f id with
  | none =>
    rw [hf] at hl
    simp only [Option.isSome_none] at hl ⊢
    clear hf
    go_enter Tryz.func62, Tryz.ntmps62
    go_wp2
    go_ret
    exact ⟨rfl, rfl⟩
  | some g =>
    rw [hf] at hl
    simp only [Option.isSome_some] at hl ⊢
    clear hf
    go_enter Tryz.func62, Tryz.ntmps62
    go_wp2
    go_ret
    exact ⟨rfl, rfl⟩

end Go.Proofs.YtpgoildfjkokiaaGreat

/- The walks of impl.ground's retiredFault and retire. -/
namespace Go.Proofs.YtpgoildfjkokiaaGreat
open Go.RowKit

theorem Ints.drew' {w : World} {lo n : Nat} {A : Option Addr} {xs : List Int} (h : Ints w lo A n xs) : Ints w.drew lo A n xs := h
theorem ownsRow_away {w : World} {base : Nat} {e : TypeId} {size : Nat} {v : Value} {n : Nat} {xs : List Value} (h : w.ownsRow base e size v n xs) {a : Addr} (ha : ∀ r, v.ownBlock = some r → r ≠ a.block) (u : Value) : (w.setCell a u).ownsRow base e size v n xs := by
  obtain ⟨hl, h⟩ := h
  refine ⟨hl, ?_⟩
  rcases h with h | ⟨g, cap, cur, rfl, h2, h3, h4⟩
  · exact Or.inl h
  · exact Or.inr ⟨g, cap, cur, rfl, h2, (heap_setCell_other w a g u (ha g rfl)).trans h3, h4⟩
theorem allIn_two {l h x : Int} : allIn l h [x] = decide (l ≤ x ∧ x ≤ h) := by
  unfold allIn; simp

set_option maxRecDepth 100000 in
set_option maxHeartbeats 3200000 in
theorem retiredFault_any (G pb cp n k1 e1 : Nat) (id : Int) (X1 : Option Addr) (ws : List Int) (w : World) (hc : w.cell? ⟨G, 1, none⟩ = some (.slice (some ⟨pb, 0, none⟩) n cp)) (hGi : G < w.heap.size) (hI : Ints w 0 X1 k1 ws) (hn : n ≤ 40) (hk1 : k1 ≤ maxLen) :
    Calls Tryz.prog 119 #[.pointer (some ⟨G, 0, none⟩), .agg #[.int .i64 id, .slice X1 k1 e1]] w fun e w' => e = .returned (.int .i64 (retF n (id, ws))) ∧ Below w.heap.size w w' := by
  have HI := Lib.hid hI
  have HW : Hid (ws.length = k1) := hI.1
  clear hI
  have B := Lib.hid (below_alloc w (.cells #[.int .i64 id, .slice X1 k1 e1] 123))
  have L_r := Lib.hid (Lies.new w 123 #[.int .i64 id, .slice X1 k1 e1])
  have C := Lib.hid ((B.out.cell (p := ⟨G, 1, none⟩) hGi).trans hc)
  have R0 : Hid (∀ v : Bool, decide (0 ≤ id ∧ id ≤ (n : Int) - 1) = v → allIn 0 ((n : Int) - 1) [id] = v) := fun v h => allIn_two.trans h
  go_enter Tryz.func119, Tryz.ntmps119
  go_wp2
  generalize hW : (w.alloc (.cells #[.int .i64 id, .slice X1 k1 e1] 123)) = W0 at *
  have hW0 : W0.heap.size = w.heap.size + 1 := by rw [← hW]; simp only [World.size_alloc]
  clear hW hc
  have r0 : W0.cell? ⟨w.heap.size, 0, none⟩ = some (.int .i64 id) := L_r.out.cell 0
  have ca : (W0.alloc (.cells #[.int .i64 id] 2)).cell? ⟨G, 1, none⟩ = some (.slice (some ⟨pb, 0, none⟩) n cp) := ((below_alloc W0 _).cell (p := ⟨G, 1, none⟩) (show G < W0.heap.size by omega)).trans C.out
  have B1 := Lib.hid (B.out.alloc B.out.size (.cells #[.int .i64 id] 2))
  have L1 := Lib.hid (L_r.out.alloc (.cells #[.int .i64 id] 2))
  have ONE : Hid (Ints (W0.alloc (.cells #[.int .i64 id] 2)) (w.heap.size + 1) (some ⟨w.heap.size + 1, 0, none⟩) 1 [id]) := by have h := one_ints W0 id; rw [hW0] at h; exact h
  have ONED := Lib.hid ONE.out.drew'
  cases hr : decide (0 ≤ id ∧ id ≤ (n : Int) - 1)
  · have HF : Hid (retF n (id, ws) = 3) := retF_out (by simpa using hr)
    have HR := Lib.hid (R0.out false hr)
    clear hr R0
    go_region_law
      (first
        | (go_simp; go_at_call 90; refine (last_any G pb cp n _ (by (try simp only [World.cell?_drew]); first | with_reducible exact C.out | with_reducible exact ca) hn).mono ?_; rintro e w' ⟨rfl, rfl⟩; dsimp only)
        | (go_simp; go_at_call 69; refine (within_is _ _ _ _ _ _ [id] _ false HR.out ONED.out (by decide)).mono ?_; rintro e w' ⟨rfl, rfl⟩; dsimp only))
    all_goals
      go_wp2
      go_ret
      refine ⟨ret_i64 HF.out.symm, ?_⟩
      with_reducible (repeat (first | exact B1.out | refine Below.drew ?_))
  have HIN := of_decide_eq_true hr
  have HR := Lib.hid (R0.out true hr)
  clear hr R0
  by_cases h0 : k1 = 0
  · have HF : Hid (retF n (id, ws) = 2) := retF_none HIN (by rw [HW.out]; exact h0)
    have h0' : ((k1 : Int) == 0) = true := by simp [h0]
    have HIN' := Lib.hid HIN
    clear HIN
    go_region_law
      (first
        | (go_simp; go_at_call 90; refine (last_any G pb cp n _ (by (try simp only [World.cell?_drew]); first | with_reducible exact C.out | with_reducible exact ca) hn).mono ?_; rintro e w' ⟨rfl, rfl⟩; dsimp only)
        | (go_simp; go_at_call 69; refine (within_is _ _ _ _ _ _ [id] _ true HR.out ONED.out (by decide)).mono ?_; rintro e w' ⟨rfl, rfl⟩; dsimp only))
    all_goals
      have r1 : (W0.alloc (.cells #[.int .i64 id] 2)).cell? ⟨w.heap.size, 1, none⟩ = some (.slice X1 k1 e1) := L1.out.cell 1
      go_wp2
      go_ret
      refine ⟨ret_i64 HF.out.symm, ?_⟩
      with_reducible (repeat (first | exact B1.out | refine Below.drew ?_))
  have HF := Lib.hid (retF_watch (n := n) (r := (id, ws)) HIN (by show ¬ ws.length = 0; rw [HW.out]; exact h0))
  have h0' : ((k1 : Int) == 0) = false := by simp [h0]
  clear HIN h0
  go_region_law
    (first
      | (go_simp; go_at_call 90; refine (last_any G pb cp n _ (by (try simp only [World.cell?_drew]); first | with_reducible exact C.out | with_reducible exact ca) hn).mono ?_; rintro e w' ⟨rfl, rfl⟩; dsimp only)
      | (go_simp; go_at_call 69; refine (within_is _ _ _ _ _ _ [id] _ true HR.out ONED.out (by decide)).mono ?_; rintro e w' ⟨rfl, rfl⟩; dsimp only))
  all_goals
    have r1 : (W0.alloc (.cells #[.int .i64 id] 2)).cell? ⟨w.heap.size, 1, none⟩ = some (.slice X1 k1 e1) := L1.out.cell 1
    have BD := Lib.hid B1.out.drew
    go_wp2_with fail
    refine (watchFault_any _ _ _ _ ws _ (HI.out.kept BD.out) hk1).mono ?_
    rintro e W2 ⟨rfl, b2⟩
    have B2 := Lib.hid (BD.out.trans (b2.mono BD.out.size))
    clear b2
    go_wp2
    go_ret
    exact ⟨ret_i64 HF.out.symm, B2.out⟩

section
variable {w w' : World} {lo G pb cp n : Nat} {d : Int} {m o : Value} {ps : List LV}
theorem Grd.others (h : Grd w lo G d m o pb cp n ps) (hs : w.heap.size ≤ w'.heap.size) (hG : w'.heap[G]? = w.heap[G]?) (hpb : w'.heap[pb]? = w.heap[pb]?) (hp : ∀ p ∈ ps, ∀ b, p.has b → w'.heap[b]? = w.heap[b]?) : Grd w' lo G d m o pb cp n ps :=
  ⟨hG.trans h.L, h.P.others hs hp, ⟨h.R.l, fun k p hk => (World.cell?_of_block (w := w) (a := ⟨pb, k, none⟩) hpb).trans (h.R.c k p hk), ⟨h.R.i.1, Nat.lt_of_lt_of_le h.R.i.2 hs⟩, h.R.x⟩, h.g⟩
end

theorem ownsRow_down {w : World} {base base' : Nat} {e : TypeId} {size : Nat} {v : Value} {n : Nat} {xs : List Value} (h : w.ownsRow base e size v n xs) (hb : base' ≤ base) : w.ownsRow base' e size v n xs := by
  obtain ⟨hl, h⟩ := h
  refine ⟨hl, ?_⟩
  rcases h with h | ⟨g, cap, cur, e1, h2, h3⟩
  · exact Or.inl h
  · exact Or.inr ⟨g, cap, cur, e1, Nat.le_trans hb h2, h3⟩
/-- An arena that is worked at, with its map of the retired places and their order. -/
structure Ret (w : World) (lo G M : Nat) (d : Int) (o : Value) (pb cp n : Nat) (ps : List LV) (km k : Nat) (ids : List Int) (f : Int → Option Nat) : Prop where
  G' : Grd w lo G d (.map (some M)) o pb cp n ps
  S : w.ownsRow lo 2 1 o k (ids.map (Value.int .i64))
  V : ∀ b, o.ownBlock = some b → b ≠ pb ∧ ∀ p ∈ ps, ¬ p.has b
  M' : PMap w M km f
  m : M < lo
  ne : M ≠ G
section
variable {w w' W1 : World} {lo G M pb cp n km k : Nat} {d : Int} {o : Value} {ps : List LV} {ids : List Int} {f : Int → Option Nat}
theorem Ret.kept (h : Ret w lo G M d o pb cp n ps km k ids f) (hb : Below w.heap.size w w') : Ret w' lo G M d o pb cp n ps km k ids f :=
  ⟨h.G'.kept hb, ownsRow_below h.S hb, h.V, h.M'.kept hb, h.m, h.ne⟩
/-- Who watches is written into a place. -/
theorem Ret.watch {j g5 n1 cap : Nat} {p : LV} {xs : List Int} (h : Ret w lo G M d o pb cp n ps km k ids f) (hb : Below w.heap.size w W1) (hi : ps[j]? = some p) (hI : Ints W1 w.heap.size (some ⟨g5, 0, none⟩) n1 xs) (hO : W1.ownsRow w.heap.size 2 1 (.slice (some ⟨g5, 0, none⟩) n1 cap) n1 (xs.map (Value.int .i64))) (h0 : 0 < n1) (hlo : lo ≤ w.heap.size) :
    Ret (W1.setCell ⟨p.g, 2, none⟩ (.slice (some ⟨g5, 0, none⟩) n1 cap)) lo G M d o pb cp n (ps.set j { p with wA := some ⟨g5, 0, none⟩, wn := n1, wc := cap, ws := xs }) km k ids f := by
  have h1 := h.kept hb
  have hp0 := h.G'.P.P p (List.mem_of_getElem? hi)
  have hp := h1.G'.P.P p (List.mem_of_getElem? hi)
  have hpg := hp.g
  have hpi := hp0.L.inside
  have hm := h.m
  have hg5 : w.heap.size ≤ g5 ∧ g5 < W1.heap.size := by
    obtain ⟨b, o', e, h2, h3, _⟩ := hI.2 h0
    injection e with e; injection e with e
    omega
  have hs5 : W1.heap.size ≤ (W1.setCell ⟨p.g, 2, none⟩ (.slice (some ⟨g5, 0, none⟩) n1 cap)).heap.size := Nat.le_of_eq (size_of_setCell _ _ _).symm
  have hk5 : ∀ b, b < W1.heap.size → b ≠ p.g → (W1.setCell ⟨p.g, 2, none⟩ (.slice (some ⟨g5, 0, none⟩) n1 cap)).heap[b]? = W1.heap[b]? := fun b _ hne => heap_setCell_other W1 ⟨p.g, 2, none⟩ b _ hne
  have rowp : ∀ b, LV.row { p with wA := some ⟨g5, 0, none⟩, wn := n1, wc := cap, ws := xs } b → p.row b ∨ b = g5 := by
    rintro b (⟨a1, a2⟩ | ⟨a1, a2⟩)
    · exact Or.inl (Or.inl ⟨a1, a2⟩)
    · injection a2 with a2; injection a2 with a2; exact Or.inr a2.symm
  have hF5 : Fresh lo (some ⟨g5, 0, none⟩) n1 := fun _ => ⟨g5, rfl, by omega⟩
  have HO5 : (W1.setCell ⟨p.g, 2, none⟩ (.slice (some ⟨g5, 0, none⟩) n1 cap)).ownsRow w.heap.size 2 1 (.slice (some ⟨g5, 0, none⟩) n1 cap) n1 (xs.map (Value.int .i64)) :=
    ownsRow_away hO (fun r e => by
      have e2 : g5 = r := by simpa [Value.ownBlock] using e
      show r ≠ p.g; omega) _
  have POK : PlaceOk (W1.setCell ⟨p.g, 2, none⟩ (.slice (some ⟨g5, 0, none⟩) n1 cap)) lo d { p with wA := some ⟨g5, 0, none⟩, wn := n1, wc := cap, ws := xs } := by
    refine ⟨hp.L.set 2 _, hp.S.block hp.F hs5 (fun b h0 e => hk5 b (Fresh.in_slots hp.S h0 e) (fun e' => hp.Y (Or.inl ⟨h0, e' ▸ e⟩))), hp.O, hp.N, ?_, hp.g, hp.F, hF5, fun hy => ?_, fun _ => ownsRow_down HO5 hlo⟩
    · exact (hI.lower (Nat.zero_le _)).blockF hF5 hs5 (fun b _ e => hk5 b (by injection e with e; injection e with e; omega) (by injection e with e; injection e with e; omega))
    · rcases rowp _ hy with h2 | h2
      · exact hp.Y h2
      · simp only at h2; omega
  have vb : ∀ b, o.ownBlock = some b → b ≠ p.g := fun b e e' => (h.V b e).2 p (List.mem_of_getElem? hi) (Or.inl e'.symm)
  refine ⟨?_, ownsRow_away h1.S (fun r e => by show r ≠ p.g; exact vb r e) _, fun b e => ⟨(h.V b e).1, fun q hq => ?_⟩, h1.M'.block (hk5 M h1.M'.inside (by omega)), h.m, h.ne⟩
  · refine h.G'.put hi rfl (Nat.le_trans hb.size hs5) (fun b h2 h3 => (hk5 b (Nat.lt_of_lt_of_le h2 hb.size) h3).trans (hb.block b h2)) POK (fun b hb' => ?_)
    rcases rowp b hb' with h2 | h2
    · exact Or.inl h2
    · exact Or.inr (by omega)
  · have hbs := (ownsRow_block2 h.S b e).2
    rcases List.mem_or_eq_of_mem_set hq with hq | rfl
    · exact (h.V b e).2 q hq
    · rintro (e' | e')
      · exact vb b e e'.symm
      · rcases rowp _ e' with h2 | h2
        · exact (h.V b e).2 p (List.mem_of_getElem? hi) (Or.inr h2)
        · omega
end
end Go.Proofs.YtpgoildfjkokiaaGreat

/- The walk of impl.ground's retire. -/
namespace Go.Proofs.YtpgoildfjkokiaaGreat
open Go.RowKit

section
variable {w w' W w1 : World} {lo G M pb cp n km k : Nat} {d : Int} {o : Value} {ps : List LV} {ids : List Int} {f f' : Int → Option Nat}
/-- A place is noted in the map. -/
theorem Ret.mapped (h : Ret w lo G M d o pb cp n ps km k ids f) (hM : PMap w' M (km + 1) f') (hg : w.grownBy w' (some M)) : Ret w' lo G M d o pb cp n ps (km + 1) k ids f' := by
  have hm := h.m
  have hk : ∀ b, b < w.heap.size → b ≠ M → w'.heap[b]? = w.heap[b]? := fun b h1 h2 => hg.block b h1 (fun e => h2 (by injection e))
  refine ⟨h.G'.others hg.size (hk G h.G'.L.inside (fun e => h.ne e.symm)) (hk pb h.G'.R.i.2 (by have := h.G'.R.i.1; omega)) (fun p hp b hb => hk b ((h.G'.P.P p hp).inside hb).2 (by have := ((h.G'.P.P p hp).inside hb).1; omega)), h.S.kept hg (Or.inr fun e => by have := (ownsRow_block2 h.S M e).1; omega), h.V, hM, h.m, h.ne⟩
/-- Its number is put behind the others. -/
theorem Ret.ordered {gg cap : Nat} {id : Int} (h : Ret w lo G M d o pb cp n ps km k ids f) (hb : Below w.heap.size w W) (ho : w1.ownsRow lo 2 1 (.slice (some ⟨gg, 0, none⟩) (k + 1) cap) (k + 1) (ids.map (Value.int .i64) ++ [.int .i64 id])) (hw : W.grownBy w1 o.ownBlock) (hat : o.ownBlock = some gg ∨ gg = W.heap.size) :
    Ret (w1.setCell ⟨G, 3, none⟩ (.slice (some ⟨gg, 0, none⟩) (k + 1) cap)) lo G M d (.slice (some ⟨gg, 0, none⟩) (k + 1) cap) pb cp n ps km (k + 1) (ids ++ [id]) f := by
  have h' := h.kept hb
  have hbk := ownsRow_block2 h'.S
  have hgl := h.G'.g
  have hml := h.m
  have Gv : some G ≠ o.ownBlock := fun e => by have := (hbk G e.symm).1; omega
  have keepB : ∀ b, b < W.heap.size → some b ≠ o.ownBlock → b ≠ G → (w1.setCell ⟨G, 3, none⟩ (.slice (some ⟨gg, 0, none⟩) (k + 1) cap)).heap[b]? = W.heap[b]? := fun b h1 h2 h3 =>
    (heap_setCell_other w1 ⟨G, 3, none⟩ b _ h3).trans (hw.block b h1 h2)
  have hs : W.heap.size ≤ (w1.setCell ⟨G, 3, none⟩ (.slice (some ⟨gg, 0, none⟩) (k + 1) cap)).heap.size := by rw [size_of_setCell]; exact hw.size
  have hpb : (w1.setCell ⟨G, 3, none⟩ (.slice (some ⟨gg, 0, none⟩) (k + 1) cap)).heap[pb]? = W.heap[pb]? := keepB pb h'.G'.R.i.2 (fun e => (h.V pb e.symm).1 rfl) (by have := h'.G'.R.i.1; omega)
  have hpp : ∀ p ∈ ps, ∀ b, p.has b → (w1.setCell ⟨G, 3, none⟩ (.slice (some ⟨gg, 0, none⟩) (k + 1) cap)).heap[b]? = W.heap[b]? := fun p hp b hb' => keepB b ((h'.G'.P.P p hp).inside hb').2 (fun e => (h.V b e.symm).2 p hp hb') (by have := ((h'.G'.P.P p hp).inside hb').1; omega)
  refine ⟨⟨Lies.set (w := w1) ((hw.block G h'.G'.L.inside Gv).trans h'.G'.L) 3 _, h'.G'.P.others hs hpp, ⟨h'.G'.R.l, fun j p hj => (World.cell?_of_block (w := W) (a := ⟨pb, j, none⟩) hpb).trans (h'.G'.R.c j p hj), ⟨h'.G'.R.i.1, Nat.lt_of_lt_of_le h'.G'.R.i.2 hs⟩, h'.G'.R.x⟩, hgl⟩, ?_, fun b e => ?_, h'.M'.block (keepB M h'.M'.inside (fun e => by have := (hbk M e.symm).1; omega) h.ne), h.m, h.ne⟩
  · exact ownsRow_far2 (by simpa using ho) (by show G < lo; exact hgl) _
  · have e' : gg = b := by simpa [Value.ownBlock] using e
    subst e'
    rcases hat with hat | hat
    · exact h.V gg hat
    · refine ⟨by have := h'.G'.R.i.2; omega, fun p hp hb' => ?_⟩
      have := ((h'.G'.P.P p hp).inside hb').2; omega
end

/-- 'm[id] = p' at the operation. -/
theorem wpList_pmap (w : World) {ops : Array Oper} {rest : List Oper} {o : Oper} {a : Act} {Q : Exit → Act → World → Prop} (hg : o.guard = none) (m x v : Operand) (hop : o.op = Op.mapUpdate 107 m x v) (M km : Nat) (f : Int → Option Nat) (hm : a.eval m = .map (some M)) (hM : PMap w M km f) (hk : km < maxLen) (id : Int) (hx : a.eval x = .int .i64 id) (hid : (Lit.int .i64 id).wf = true) (g : Nat) (hv : a.eval v = .pointer (some ⟨g, 0, none⟩))
    (hK : ∀ w', PMap w' M (km + 1) (fun x => if x = id then some g else f x) → w.grownBy w' (some M) → wpList Tryz.prog ops Q rest (a.put o.dst undef) w') : wpList Tryz.prog ops Q (o :: rest) a w := by
  refine wpList_plain hg fun K' hK' => ?_
  obtain ⟨w', hrun, r1, r2⟩ := hM.store hk hid g
  unfold Oper.wp
  simp [execOp, hop, hm, hx, hv, hrun, Result.andThen]
  exact hK' _ _ (hK w' r1 r2)

/-- The row of who watches lies in block b. -/
def LV.wrow (p : LV) (b : Nat) : Prop := 0 < p.wn ∧ p.wA = some ⟨b, 0, none⟩
/-- A place that is watched by xs. -/
def LV.seen (p q : LV) (xs : List Int) : Prop := ∃ g5 n1 cap, q = { p with wA := some ⟨g5, 0, none⟩, wn := n1, wc := cap, ws := xs }

set_option maxRecDepth 100000 in
set_option maxHeartbeats 3200000 in
theorem retire_any (d : Int) (lo B0 G M pb cp n km k j n1 c1 : Nat) (o : Value) (X1 : Option Addr) (xs : List Int) (ps : List LV) (p : LV) (ids : List Int) (f : Int → Option Nat) (w : World) (h : Ret w lo G M d o pb cp n ps km k ids f) (hj : ps[j]? = some p) (hI : Ints w 0 X1 n1 xs) (h0 : 0 < n1) (hn1 : n1 ≤ 4) (hlo : lo ≤ w.heap.size) (hkm : km ≤ 1048576) (hk : k ≤ 1048576) (hn : n ≤ 40) (hB1 : B0 ≤ G) (hB2 : B0 ≤ M) (hBlo : B0 ≤ lo) :
    Calls Tryz.prog 64 #[.pointer (some ⟨G, 0, none⟩), .int .i64 (j : Int), .slice X1 n1 c1] w fun e w' => e = .returned noResult ∧ Below B0 w w' ∧ ∃ o' q, Ret w' lo G M d o' pb cp n (ps.set j q) (km + 1) (k + 1) (ids ++ [(j : Int)]) (fun x => if x = (j : Int) then some p.g else f x) ∧ p.seen q xs ∧ ∀ b, q.wrow b → w.heap.size ≤ b := by
  have H := Lib.hid h
  have HJ := Lib.hid hj
  have HI := Lib.hid hI
  have hjn : j < n := by have := (List.getElem?_eq_some_iff.1 hj).1; rw [h.G'.R.l] at this; exact this
  have hjn' : (j : Int) < (n : Int) := by omega
  have HP := Lib.hid (h.G'.P.P p (List.mem_of_getElem? hj))
  have hpg := HP.out.g
  have HW : Hid ((Lit.int .i64 (j : Int)).wf = true) := WalkArith.wf_i64 (by omega)
  obtain ⟨i0, hi0, hz0, hz1, hz2⟩ := info_parts_i64
  have IP := Lib.hid (And.intro hi0 (And.intro hz0 (And.intro hz1 hz2)))
  have g1 : w.cell? ⟨G, 1, none⟩ = some (.slice (some ⟨pb, 0, none⟩) n cp) := h.G'.L.cell 1
  have g2 : w.cell? ⟨pb, j, none⟩ = some (.pointer (some ⟨p.g, 0, none⟩)) := h.G'.R.c j p hj
  clear h hj hI hi0 hz0 hz1 hz2
  go_enter Tryz.func64, Tryz.ntmps64
  go_wp2_with fail
  refine (cloneInts_any _ _ _ _ xs _ HI.out h0 (by omega)).mono ?_
  rintro e W1 ⟨g5, cap, rfl, hI5, b1, hO5⟩
  have H2 := Lib.hid (H.out.watch (cap := cap) b1 HJ.out hI5 hO5 h0 hlo)
  have HP1 := Lib.hid (HP.out.kept b1)
  have HG5 : Hid (w.heap.size ≤ g5) := by
    obtain ⟨b', o', e, h2, _⟩ := hI5.2 h0
    injection e with e; injection e with e
    exact Lib.hid (by omega)
  have BB : Hid (Below B0 w (W1.setCell ⟨p.g, 2, none⟩ (.slice (some ⟨g5, 0, none⟩) n1 cap))) := (b1.mono (by omega)).setCell (by show B0 ≤ p.g; omega) _
  have s2 : W1.cell? ⟨p.g, 2, none⟩ = some (.slice p.wA p.wn p.wc) := HP1.out.L.cell 2
  have f2 : W1.frozen? ⟨p.g, 2, none⟩ = false := HP1.out.L.thawed 2
  have g3 : (W1.setCell ⟨p.g, 2, none⟩ (.slice (some ⟨g5, 0, none⟩) n1 cap)).cell? ⟨G, 2, none⟩ = some (.map (some M)) := H2.out.G'.L.cell 2
  clear b1 hI5 hO5 g1 g2 HP HP1
  go_wp2_with (at_mapUpdate; refine wpList_pmap _ rfl (.tmp 22) (.tmp 23) (.tmp 24) rfl M km f rfl H2.out.M' (by unfold maxLen; omega) (j : Int) rfl HW.out p.g rfl ?_)
  intro W3 hM3 hg3
  have H3 := Lib.hid (H2.out.mapped hM3 hg3)
  have B3 : Hid (Below B0 w W3) := below_grown2 BB.out hg3 (fun r e => by injection e with e; omega) (by have := BB.out.size; omega)
  clear hM3 hg3 H2 BB g3 s2 f2
  have g3 : W3.cell? ⟨G, 3, none⟩ = some o := H3.out.G'.L.cell 3
  have hGW : G < W3.heap.size := H3.out.G'.L.inside
  have bA := Lib.hid (below_alloc W3 (.cells #[.int .i64 (j : Int)] 2))
  have HS3 := Lib.hid (ownsRow_below H3.out.S bA.out)
  have hloW : lo ≤ W3.heap.size := by have := H3.out.G'.R.i; omega
  have NEWS : Hid (∀ i u, ([.int .i64 (j : Int)] : List Value)[i]? = some u → (W3.alloc (.cells #[.int .i64 (j : Int)] 2)).cell? ((⟨W3.heap.size, 0, none⟩ : Addr).add i) = some u) := World.news_of_block (cs := #[.int .i64 (j : Int)]) (t := 2) (fr := (0, 0)) (Lies.new W3 2 #[.int .i64 (j : Int)])
  go_wp2_with (with_reducible refine wpList_append_lies _ rfl (.tmp 29) (.tmp 31) 23 rfl lo 2 i0 (.int .i64 0) 1 8 Tryz.underlying23 IP.out.1 IP.out.2.1 IP.out.2.2.1 IP.out.2.2.2 rfl (by omega) o k (ids.map (Value.int .i64)) rfl HS3.out ⟨W3.heap.size, 0, none⟩ 1 1 [.int .i64 (j : Int)] rfl rfl NEWS.out ?q2 (by omega) ?q3 ?q4 ?q5 (W3.heap.size + 1) ?q6 ?_)
  case q2 => simp [Value.oneCell']
  case q3 => unfold maxLen; omega
  case q4 => omega
  case q5 => simp only [World.size_alloc]; omega
  case q6 => simp only [World.size_alloc]
  intro gg cap2 w1 ho hw hat hlt1
  have hbk := ownsRow_block2 HS3.out
  have H4 := Lib.hid (H3.out.ordered (cap := cap2) bA.out ho hw (by simpa only [World.size_alloc] using hat))
  have LG := Lib.hid ((hw.block G (H3.out.kept bA.out).G'.L.inside (fun e => by have := (hbk G e.symm).1; have := H3.out.G'.g; omega)).trans (H3.out.kept bA.out).G'.L)
  have s3 : w1.cell? ⟨G, 3, none⟩ = some o := Lies.cell LG.out 3
  have f3 : w1.frozen? ⟨G, 3, none⟩ = false := Lies.thawed LG.out 3
  have B4 : Hid (Below B0 w (w1.setCell ⟨G, 3, none⟩ (.slice (some ⟨gg, 0, none⟩) (k + 1) cap2))) := by
    refine Below.setCell (below_grown2 (B3.out.alloc (by have := B3.out.size; omega) _) hw (fun r e => by have := (hbk r e).1; omega) ?_) hB1 _
    have := B3.out.size; simp only [World.size_alloc]; omega
  clear ho hw hat hlt1 hbk HS3 H3 B3 g3 bA NEWS LG
  go_wp2
  go_end0
  exact ⟨rfl, B4.out, _, _, H4.out, ⟨g5, n1, cap, rfl⟩, fun b hb => by obtain ⟨_, e⟩ := hb; injection e with e; injection e with e; have := HG5.out; omega⟩

end Go.Proofs.YtpgoildfjkokiaaGreat
