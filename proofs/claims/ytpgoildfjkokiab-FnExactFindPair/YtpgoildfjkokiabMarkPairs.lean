/- The marks on a list of pairs of the call's own: nothing but its own blocks turns. -/
import Derived.Test.YtpgoildfjkokiabMarkNode
import Derived.Test.YtpgoildfjkokiabPairLists
namespace Go.Proofs.Ytpgoildfjkokiab
open Go.RowKit

/-- A row of pairs, whatever their numbers are, below hi. -/
def PairsAny (w : World) (g n hi : Nat) (qs : List PV) : Prop :=
  (∃ f, w.rowIs g 28 (n * 3) f ∧ ∀ (j : Nat) (q : PV), qs[j]? = some q → f (j * 3 + 1) = .slice q.A1 q.n1 q.c1 ∧ f (j * 3 + 2) = .slice q.A2 q.n2 q.c2) ∧ g < hi ∧
  ∀ q ∈ qs, ∃ g1 g2, q.A1 = some ⟨g1, 0, none⟩ ∧ q.A2 = some ⟨g2, 0, none⟩ ∧ g < g1 ∧ g1 < g2 ∧ g2 < hi ∧ (∃ xs, Own w g1 q.n1 xs) ∧ ∃ ys, Own w g2 q.n2 ys
theorem PairsOwn.any {w : World} {g n : Nat} {qs : List PV} (h : PairsOwn w g n qs) : PairsAny w g n w.heap.size qs := by
  obtain ⟨⟨f, h1, h2⟩, hl, h3⟩ := h
  refine ⟨⟨f, h1, fun j q hq => ⟨(h2 j q hq).2.1, (h2 j q hq).2.2⟩⟩, h1.lt, fun q hq => ?_⟩
  obtain ⟨k1, k2, k3, k4, g1, g2, k5, k6, k7, k8, k9, k10⟩ := h3 q hq
  exact ⟨g1, g2, k5, k6, k7, k8, k10.2.lt, ⟨_, k9⟩, _, k10⟩
theorem PairsAny.kept {w w' : World} {g n hi : Nat} {qs : List PV} (h : PairsAny w g n hi qs) (hb : Below w.heap.size w w') : PairsAny w' g n hi qs := by
  obtain ⟨⟨f, h1, h2⟩, hg, h3⟩ := h
  refine ⟨⟨f, h1.of_block (hb.block g h1.lt), h2⟩, hg, fun q hq => ?_⟩
  obtain ⟨g1, g2, k5, k6, k7, k8, k9, ⟨xs, o1⟩, ys, o2⟩ := h3 q hq
  exact ⟨g1, g2, k5, k6, k7, k8, k9, ⟨xs, o1.kept hb⟩, ys, o2.kept hb⟩
theorem PairsAny.mark {w w' : World} {g n hi g1 n1 : Nat} {qs : List PV} {xs xs' : List Int} (h : PairsAny w g n hi qs) (hne : g < g1) (ht : Turned (fun x => x = g1) w w') (h0 : Own w g1 n1 xs) (h1 : Own w' g1 n1 xs') : PairsAny w' g n hi qs := by
  obtain ⟨⟨f, r1, r2⟩, hg, h3⟩ := h
  refine ⟨⟨f, r1.of_block (ht.2.2 g r1.lt (by omega)), r2⟩, hg, fun q hq => ?_⟩
  obtain ⟨ga, gb, k5, k6, k7, k8, k9, ⟨ys, o1⟩, zs, o2⟩ := h3 q hq
  exact ⟨ga, gb, k5, k6, k7, k8, k9, ht.ownAny h0 h1 o1, ht.ownAny h0 h1 o2⟩
theorem PairsAny.put {w : World} {g n hi k : Nat} {qs : List PV} (h : PairsAny w g n hi qs) (hk : k % 3 = 0) (v : Value) : PairsAny (w.setCell ⟨g, k, none⟩ v) g n hi qs := by
  obtain ⟨⟨f, r1, r2⟩, hg, h3⟩ := h
  refine ⟨⟨_, r1.set k v, fun j q hq => ?_⟩, hg, fun q hq => ?_⟩
  · rw [if_neg (by omega), if_neg (by omega)]; exact r2 j q hq
  · obtain ⟨ga, gb, k5, k6, k7, k8, k9, ⟨ys, o1⟩, zs, o2⟩ := h3 q hq
    exact ⟨ga, gb, k5, k6, k7, k8, k9, ⟨ys, o1.far (by show ga ≠ g; omega) _⟩, zs, o2.far (by show gb ≠ g; omega) _⟩

set_option maxHeartbeats 3200000 in
theorem markPairS_all (k0 : Int) (g n c hi : Nat) (qs : List PV) (w : World) (ho : PairsAny w g n hi qs) (hl : qs.length = n) (h0 : 0 ≤ k0) (h1 : k0 ≤ 8388608) (hn : n ≤ 1048576) (hs : ∀ q ∈ qs, q.n1 + q.n2 ≤ 1048576) :
    Calls Try.prog 10 #[.slice (some ⟨g, 0, none⟩) n c, .int .i64 k0] w fun e w' => ∃ r : Int, e = .returned (.int .i64 r) ∧ (0 ≤ r ∧ r ≤ k0 + n * 1048578) ∧ Turned (fun x => g ≤ x ∧ x < hi) w w' := by
  have HO := Lib.hid ho
  have HL := Lib.hid hl
  have HS := Lib.hid hs
  clear ho hl hs
  go_enter Try.func10, Try.ntmps10
  go_wp2
  go_loopw [1, 5] (fun kv i wr => ∃ (j : Nat) (m : Int), j ≤ n ∧ i = .int .i64 j ∧ kv = .int .i64 m ∧ 0 ≤ m ∧ m ≤ k0 + j * 1048578 ∧ Hid (PairsAny wr g n hi qs) ∧ Hid (Turned (fun x => g ≤ x ∧ x < hi) w wr)) (fun _ i _ => n - (intOf i).toNat)
  case atStart => exact ⟨0, k0, Nat.zero_le _, rfl, rfl, h0, by omega, HO, Turned.refl _ _⟩
  case round =>
    obtain ⟨j, m, hj, rfl, rfl, hm0, hm1, hE, hT⟩ := hrel
    by_cases hlt : j < n
    · have hq : qs[j]? = some (qs[j]'(by rw [HL.out]; exact hlt)) := List.getElem?_eq_getElem _
      obtain ⟨g1, g2, e1, e2, l1, l2, l3, _, _⟩ := hE.out.2.2 _ (List.mem_of_getElem? hq)
      have hs := HS.out _ (List.mem_of_getElem? hq)
      obtain ⟨⟨f, hrow, hf⟩, hgi, _⟩ := hE.out
      have d0 : wr.cell? ⟨g, j * 3, none⟩ = some (f (j * 3)) := hrow.cell (by omega)
      have d0f : wr.frozen? ⟨g, j * 3, none⟩ = false := hrow.frozen _
      have hE0 := Lib.hid (hE.out.put (k := j * 3) (by omega) (.int .i64 m))
      have hT0 := Lib.hid (hT.out.setCell (a := ⟨g, j * 3, none⟩) ⟨Nat.le_refl _, hgi⟩ (.int .i64 m))
      have hlt' : (j : Int) < (n : Int) := by omega
      obtain ⟨⟨f1, hrow1, hf1⟩, _, h3⟩ := hE0.out
      obtain ⟨g1', g2', e1', e2', _, _, _, ⟨xs, o1⟩, ys, o2⟩ := h3 _ (List.mem_of_getElem? hq)
      rw [e1] at e1'; injection e1' with e1'; injection e1' with e1'; subst e1'
      rw [e2] at e2'; injection e2' with e2'; injection e2' with e2'; subst e2'
      have d1 : (wr.setCell ⟨g, j * 3, none⟩ (.int .i64 m)).cell? ⟨g, j * 3 + 1, none⟩ = some (f1 (j * 3 + 1)) := hrow1.cell (by omega)
      have d2 : (wr.setCell ⟨g, j * 3, none⟩ (.int .i64 m)).cell? ⟨g, j * 3 + 2, none⟩ = some (f1 (j * 3 + 2)) := hrow1.cell (by omega)
      rw [(hf1 j _ hq).1, e1] at d1
      rw [(hf1 j _ hq).2, e2] at d2
      generalize (qs[j]'(by rw [HL.out]; exact hlt)).n1 = n1 at *
      generalize (qs[j]'(by rw [HL.out]; exact hlt)).c1 = c1 at *
      generalize (qs[j]'(by rw [HL.out]; exact hlt)).n2 = n2 at *
      generalize (qs[j]'(by rw [HL.out]; exact hlt)).c2 = c2 at *
      have hgs : g < (wr.setCell ⟨g, j * 3, none⟩ (.int .i64 m)).heap.size := hrow1.lt
      clear hq e1 e2 hf hrow hf1 hrow1 h3 hE hT
      have O_1 := Lib.hid o1
      have O_2 := Lib.hid o2
      clear o1 o2
      go_wp2_with fail
      generalize hWz : wr.setCell ⟨g, j * 3, none⟩ (.int .i64 m) = Wz at *
      clear hWz
      refine (markInt64S_any (m + 1) n1 c1 g1 xs _ O_1.out (by omega) (by omega) (by omega)).mono ?_
      rintro e W1 ⟨rfl, om1, t1⟩
      replace O_2 := Lib.hid (t1.own O_2.out (show ¬ g2 = g1 by omega))
      have hE1 := Lib.hid (hE0.out.mark l1 t1 O_1.out om1)
      have hT1 := Lib.hid (hT0.out.trans (t1.wider (fun x hx => by show g ≤ x ∧ x < hi; have hx' : x = g1 := hx; omega)))
      have d2' : W1.cell? ⟨g, j * 3 + 2, none⟩ = some (.slice (some ⟨g2, 0, none⟩) n2 c2) := by
        rw [World.cell?_of_block (w := Wz) (a := ⟨g, j * 3 + 2, none⟩) (t1.2.2 g hgs (by omega))]; exact d2
      clear om1 t1 d0 d0f d1 d2 O_1 hE0 hT0
      go_wp2_with fail
      refine (markInt64S_any (m + 1 + n1) n2 c2 g2 ys _ O_2.out (by omega) (by omega) (by omega)).mono ?_
      rintro e W2 ⟨rfl, om2, t2⟩
      have hE' := Lib.hid (hE1.out.mark (by omega) t2 O_2.out om2)
      have hT' := Lib.hid (hT1.out.trans (t2.wider (fun x hx => by show g ≤ x ∧ x < hi; have hx' : x = g2 := hx; omega)))
      clear om2 t2 d2' O_2 hE1 hT1
      go_wp2
      go_roundw
      case rel => exact ⟨j + 1, _, by omega, by go_num, rfl, by omega, by omega, hE', hT'⟩
      case measure => simp [intOf]; omega
    · go_wp2
      go_ret
      exact ⟨m, rfl, ⟨hm0, by omega⟩, hT.out⟩

end Go.Proofs.Ytpgoildfjkokiab
