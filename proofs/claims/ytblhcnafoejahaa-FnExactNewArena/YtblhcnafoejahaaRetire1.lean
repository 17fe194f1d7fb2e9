/- The walk of impl.ground's vacate: a place is written anew, empty and free. -/
import Derived.Test.YtblhcnafoejahaaArenaOut
import Derived.Test.YtblhcnafoejahaaReadNil
import Derived.Maps.Own
import Derived.Maps.OwnSet
import Derived.Maps.Views
import Derived.Test.YtblhcnafoejahaaUnion
import Derived.Lib.SliceRun
namespace Go.Proofs.Ytblhcnafoejahaa
open Go.RowKit

/-- An empty place's cells. -/
def vacPlace (d : Int) : Array Value := #[.iface (hty 0) (.agg #[.int .i64 d, .slice none 0 0, .int .i64 0, .int .i64 0, .int .i64 (-1)]), .bool true, .slice none 0 0]
theorem holderFrom_vac (d : Int) (w : World) : Calls Try.prog 62 #[.agg #[.int .i64 0, .int .i64 0, .int .i64 (-1), .slice none 0 0], .int .i64 d] w fun e w' => e = .returned (.iface (hty 0) (.agg #[.int .i64 d, .slice none 0 0, .int .i64 0, .int .i64 0, .int .i64 (-1)])) ∧ Below w.heap.size w w' := holderFrom_nil 0 0 (-1) d 0 none w

set_option maxRecDepth 100000 in
set_option maxHeartbeats 3200000 in
theorem vacate_any (d : Int) (G pb cp n j pg : Nat) (v0 v1 v2 m o : Value) (w : World) (hG : Lies w G 104 #[.int .i64 d, .slice (some ⟨pb, 0, none⟩) n cp, m, o]) (hc : w.cell? ⟨pb, j, none⟩ = some (.pointer (some ⟨pg, 0, none⟩))) (hp : Lies w pg 107 #[v0, v1, v2]) (h1 : pg ≠ G) (h2 : pg ≠ pb) (hj : j < n) (hn : n ≤ 40) :
    Calls Try.prog 52 #[.pointer (some ⟨G, 0, none⟩), .int .i64 (j : Int)] w fun e w' => e = .returned noResult ∧ Turned (fun x => x = pg) w w' ∧ Lies w' pg 107 (vacPlace d) := by
  have HG := Lib.hid hG
  have HP := Lib.hid hp
  have hpb : pb < w.heap.size := by
    rcases Nat.lt_or_ge pb w.heap.size with h' | h'
    · exact h'
    · have : w.heap[pb]? = none := Array.getElem?_eq_none h'
      simp [World.cell?, this] at hc
  have hj' : (j : Int) < (n : Int) := by omega
  have n1 : ¬ pg = G := h1
  have n2 : ¬ pg = pb := h2
  have n3 : ¬ G = pg := fun e => h1 e.symm
  have n4 : ¬ pb = pg := fun e => h2 e.symm
  have k_0 : w.cell? ⟨G, 1, none⟩ = some (.slice (some ⟨pb, 0, none⟩) n cp) ∧ w.cell? ⟨pb, j, none⟩ = some (.pointer (some ⟨pg, 0, none⟩)) ∧ w.cell? ⟨G, 0, none⟩ = some (.int .i64 d) := ⟨hG.cell 1, hc, hG.cell 0⟩
  clear hG hp hc h1 h2
  go_enter Try.func52, Try.ntmps52
  go_wp2
  go_region_held3 (fun w' => w'.cell? ⟨G, 1, none⟩ = some (.slice (some ⟨pb, 0, none⟩) n cp) ∧ w'.cell? ⟨pb, j, none⟩ = some (.pointer (some ⟨pg, 0, none⟩)) ∧ w'.cell? ⟨G, 0, none⟩ = some (.int .i64 d))
    (first | (simp [go_sem, k_0]; done) | with_reducible exact k_1 | with_reducible exact k_2 | (simp [go_sem, k_2, n1, n2, n3, n4]; done))
    (first
      | (go_at_call 75; refine (vacantNode_any _).mono ?_
         rintro e W1 ⟨rfl, b1d⟩
         have b1 := below_drawn b1d
         have k_1 : W1.cell? ⟨G, 1, none⟩ = some (.slice (some ⟨pb, 0, none⟩) n cp) ∧ W1.cell? ⟨pb, j, none⟩ = some (.pointer (some ⟨pg, 0, none⟩)) ∧ W1.cell? ⟨G, 0, none⟩ = some (.int .i64 d) := ⟨(HG.out.kept b1 HG.out.inside).cell 1, (b1.cell (p := ⟨pb, j, none⟩) hpb).trans k_0.2.1, (HG.out.kept b1 HG.out.inside).cell 0⟩
         clear b1d)
      | (go_at_call 62; refine (holderFrom_vac d _).mono ?_
         rintro e W2 ⟨rfl, b2⟩
         have b2' := b1.trans (b2.mono b1.size)
         have HP2 := Lib.hid (HP.out.kept b2' HP.out.inside)
         have k_2 : W2.cell? ⟨G, 1, none⟩ = some (.slice (some ⟨pb, 0, none⟩) n cp) ∧ W2.cell? ⟨pb, j, none⟩ = some (.pointer (some ⟨pg, 0, none⟩)) ∧ W2.cell? ⟨G, 0, none⟩ = some (.int .i64 d) := ⟨(HG.out.kept b2' HG.out.inside).cell 1, (b2'.cell (p := ⟨pb, j, none⟩) hpb).trans k_0.2.1, (HG.out.kept b2' HG.out.inside).cell 0⟩
         have s0 : W2.cell? ⟨pg, 0, none⟩ = some v0 := HP2.out.cell 0
         have s1 : W2.cell? ⟨pg, 1, none⟩ = some v1 := HP2.out.cell 1
         have s2 : W2.cell? ⟨pg, 2, none⟩ = some v2 := HP2.out.cell 2
         have f0 : W2.frozen? ⟨pg, 0, none⟩ = false := HP2.out.thawed 0
         have f1 : W2.frozen? ⟨pg, 1, none⟩ = false := HP2.out.thawed 1
         have f2 : W2.frozen? ⟨pg, 2, none⟩ = false := HP2.out.thawed 2
         clear b2))
  all_goals
    have LV := Lib.hid (((HP2.out.set 0 (.iface (hty 0) (.agg #[.int .i64 d, .slice none 0 0, .int .i64 0, .int .i64 0, .int .i64 (-1)]))).set 1 (.bool true)).set 2 (.slice none 0 0))
    have TT := Lib.hid (((((Turned.of_below (G := fun x => x = pg) b2').setCell (a := ⟨pg, 0, none⟩) rfl (.iface (hty 0) (.agg #[.int .i64 d, .slice none 0 0, .int .i64 0, .int .i64 0, .int .i64 (-1)]))).setCell (a := ⟨pg, 1, none⟩) rfl (.bool true)).setCell (a := ⟨pg, 2, none⟩) rfl (.slice none 0 0)))
    go_wp2
    go_end0
    exact ⟨rfl, TT.out, LV.out⟩

end Go.Proofs.Ytblhcnafoejahaa

/- A map from numbers to places: what it is in memory, a look-up and a store. -/
namespace Go.Proofs.Ytblhcnafoejahaa
open Go.RowKit Go.Maps

/-- How a pointer reads: by its block's number. -/
def ptrElem : Value → Option (DataW Unit × List MemPlace)
  | .pointer (some ⟨g, 0, none⟩) => some (.lit (.int .i64 g), [])
  | .pointer none => some (.nil, [])
  | _ => none
theorem ptrElem_lit {v : Value} {g : Nat} {ps : List MemPlace} (h : ptrElem v = some (.lit (.int .i64 g), ps)) : v = .pointer (some ⟨g, 0, none⟩) := by
  unfold ptrElem at h
  split at h
  · rename_i g'
    simp only [Option.some.injEq, Prod.mk.injEq, DataW.lit.injEq, Lit.int.injEq, true_and] at h
    have : g' = g := by omega
    rw [this]
  · simp at h
  · simp at h
theorem ptrElem_nil {v : Value} {ps : List MemPlace} (h : ptrElem v = some (.nil, ps)) : v = .pointer none := by
  unfold ptrElem at h
  split at h
  · simp at h
  · rfl
  · simp at h
theorem key_law : Keyed Try.prog 2 := int_keyed Try.underlying2
theorem zero_ptr (w : World) : (zeroValue 105).run Try.prog w = .ok (.pointer none) w := by kernel_rfl

/-- Block M is a map of at most k entries: f tells the place at a number. -/
def PMap (w : World) (M k : Nat) (f : Int → Option Nat) : Prop :=
  ∃ D : DataW Unit, w.ownsMap Try.prog 2 ptrElem M k D ∧ IsMap D ∧ ∀ id : Int, Maps.has D (.int .i64 id) = (f id).isSome ∧ D.atKey (.int .i64 id) .nil = match f id with | some g => .lit (.int .i64 (g : Int)) | none => .nil
section
variable {w w' : World} {M k : Nat} {f : Int → Option Nat}
theorem PMap.block (h : PMap w M k f) (hb : w'.heap[M]? = w.heap[M]?) : PMap w' M k f := by
  obtain ⟨D, ⟨es, clock, h1, h2⟩, h3⟩ := h
  exact ⟨D, ⟨es, clock, hb.trans h1, h2⟩, h3⟩
theorem PMap.inside (h : PMap w M k f) : M < w.heap.size := by
  obtain ⟨D, ⟨es, clock, h1, h2⟩, h3⟩ := h
  rcases Nat.lt_or_ge M w.heap.size with h' | h'
  · exact h'
  · exact absurd (h1.symm.trans (Array.getElem?_eq_none h')) (by simp)
theorem PMap.kept (h : PMap w M k f) (hb : Below w.heap.size w w') : PMap w' M k f := h.block (hb.block M h.inside)
theorem PMap.made (w : World) : PMap (w.alloc (.map #[] 0)) w.heap.size 0 (fun _ => none) :=
  ⟨.map [], World.ownsMap_made w _ _ _, ⟨[], rfl⟩, fun id => ⟨rfl, rfl⟩⟩
theorem PMap.look (h : PMap w M k f) {id : Int} (hid : (Lit.int .i64 id).wf = true) : (Instr.lookup 102 (.map (some M)) (.int .i64 id) true).run Try.prog w = .ok (.tuple #[match f id with | some g => .pointer (some ⟨g, 0, none⟩) | none => .pointer none, .bool (f id).isSome]) w := by
  obtain ⟨D, h1, h2, h3⟩ := h
  obtain ⟨v, ps, hrun, hv⟩ := h1.look_ok key_law Try.underlying102 (zero_ptr w) (zd := .nil) (zp := []) rfl (keyOf_int_mk Try.underlying2 hid)
  rw [hrun, (h3 id).1]
  rw [(h3 id).2] at hv
  cases hf : f id with
  | none => rw [hf] at hv; rw [ptrElem_nil hv]
  | some g => rw [hf] at hv; rw [ptrElem_lit hv]
theorem PMap.store (h : PMap w M k f) (hk : k < maxLen) {id : Int} (hid : (Lit.int .i64 id).wf = true) (g : Nat) : ∃ w', (Instr.mapUpdate 102 (.map (some M)) (.int .i64 id) (.pointer (some ⟨g, 0, none⟩))).run Try.prog w = .ok () w' ∧ PMap w' M (k + 1) (fun x => if x = id then some g else f x) ∧ w.grownBy w' (some M) := by
  obtain ⟨D, h1, h2, h3⟩ := h
  obtain ⟨w', hrun, r1, r2⟩ := h1.update key_law Try.underlying102 hk (keyOf_int_mk Try.underlying2 hid) (val := .pointer (some ⟨g, 0, none⟩)) (d := .lit (.int .i64 g)) (ps := []) rfl
  refine ⟨w', hrun, ⟨D.put (.int .i64 id) (.lit (.int .i64 g)), r1, r1.isMap, fun x => ?_⟩, r2⟩
  by_cases hx : x = id
  · subst hx
    simp only [if_true]
    have hk' : WideAt.IsKeyLit (Lit.int .i64 x) := by trivial
    exact ⟨has_put_same h2 hk' _, atKey_put_same h2 hk' _ _⟩
  · simp only [if_neg hx]
    have hne : (Lit.int .i64 x) ≠ (Lit.int .i64 id) := fun e => hx (by injection e)
    rw [has_put_other hne, atKey_put_other hne]
    exact h3 x
end

end Go.Proofs.Ytblhcnafoejahaa

/- The walks of impl.watchFault, impl.ground's retiredFault and isRetired, and of slices.Clone at numbers. -/
namespace Go.Proofs.Ytblhcnafoejahaa
open Go.RowKit


set_option maxRecDepth 100000 in
set_option maxHeartbeats 1600000 in
theorem cloneInts_any (n c lo : Nat) (A : Option Addr) (xs : List Int) (w : World) (hp : Ints w lo A n xs) (h0 : 0 < n) (hn : n ≤ 1048576) :
    Calls Try.prog 76 #[.slice A n c] w fun e w' => ∃ g cap, e = .returned (.slice (some ⟨g, 0, none⟩) n cap) ∧ Ints w' w.heap.size (some ⟨g, 0, none⟩) n xs ∧ Below w.heap.size w w' := by
  have HP := Lib.hid hp
  obtain ⟨hl, hr⟩ := hp
  obtain ⟨b, o, rfl, hlo, hb, hc⟩ := hr h0
  obtain ⟨i0, hi0, hz0, hz1, hz2⟩ := info_parts_i64
  have B := Lib.hid (below_alloc w (.cells #[] 2))
  have hown : Hid ((w.alloc (.cells #[] 2)).ownsRow w.heap.size 2 1 (.slice (some ⟨w.heap.size, 0, none⟩) 0 0) 0 []) := ⟨rfl, Or.inr ⟨w.heap.size, 0, #[], rfl, Nat.le_refl _, heap_alloc_new w _, Nat.le_refl _, Nat.zero_le _, rfl, rfl⟩⟩
  have hnews : Hid (∀ (j : Nat) (u : Value), (xs.map (Value.int .i64))[j]? = some u → (w.alloc (.cells #[] 2)).cell? ((⟨b, o, none⟩ : Addr).add j) = some u) := by
    intro j u hj
    rw [add_none, B.out.cell (p := ⟨b, o + j, none⟩) hb]
    rw [List.getElem?_map] at hj
    obtain ⟨x, hx, rfl⟩ := Option.map_eq_some_iff.1 hj
    exact hc j x hx
  have HL := Lib.hid hl
  have IP := Lib.hid (And.intro hi0 (And.intro hz0 (And.intro hz1 hz2)))
  clear hr hc hl hi0 hz0 hz1 hz2
  have heq := fun w => Lib.run_eql_slice_nil (P := Try.prog) w 33 2 (some ⟨b, o, none⟩) n c 0 0 Try.underlying33
  simp only [Option.isNone_some] at heq
  go_enter Try.func76, Try.ntmps76
  go_wp2_with (with_reducible refine wpList_append_lies _ rfl (.tmp 5) (.tmp 6) 33 rfl w.heap.size 2 i0 (.int .i64 0) 1 8 Try.underlying33 IP.out.1 IP.out.2.1 IP.out.2.2.1 IP.out.2.2.2 rfl (by omega) (.slice (some ⟨w.heap.size, 0, none⟩) 0 0) 0 [] rfl hown.out ⟨b, o, none⟩ n c (xs.map (Value.int .i64)) rfl ?q1 hnews.out ?q2 h0 ?q3 ?q4 ?q5 (w.heap.size + 1) ?q6 ?_)
  case q1 => rw [List.length_map, HL.out, Nat.mul_one]
  case q2 => intro u hu; obtain ⟨x, _, rfl⟩ := List.mem_map.1 hu; rfl
  case q3 => unfold maxLen; omega
  case q4 => omega
  case q5 => simp
  case q6 => simp
  intro g cap w' ho hg hat hlt
  have HO : Hid (w'.ownsRow w.heap.size 2 1 (.slice (some ⟨g, 0, none⟩) n cap) n (xs.map (Value.int .i64))) := by show World.ownsRow _ _ _ _ _ _ _; simpa using ho
  have HB := Lib.hid (below_grown2 B.out hg (fun r e => by simp [Value.ownBlock] at e; omega) B.out.size)
  obtain ⟨A', c', e', hI⟩ := ints_of_owns HO.out
  injection e' with e1 e2 e3
  subst e1 e3
  have HI := Lib.hid hI
  clear ho hg hat hI
  go_wp2
  go_ret
  exact ⟨g, ⟨cap, by simp⟩, HI.out, HB.out⟩


end Go.Proofs.Ytblhcnafoejahaa
