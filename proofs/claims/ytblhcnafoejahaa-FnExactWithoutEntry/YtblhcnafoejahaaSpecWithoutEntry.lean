/- The walk of spec.WithoutEntry. No condition but the length. -/
import Derived.Test.YtblhcnafoejahaaSpecWithout
namespace Go.Proofs.Ytblhcnafoejahaa
open Go.RowKit

theorem filter_erase {α : Type} {p : α → Bool} : ∀ {l : List α} {i : Nat}, (∀ (j : Nat) (x : α), l[j]? = some x → (p x = false ↔ j = i)) → l.filter p = l.eraseIdx i
  | [], i, _ => by simp
  | a :: t, 0, h => by
    have h0 : p a = false := (h 0 a (by simp)).2 rfl
    rw [List.filter_cons, if_neg (by simp [h0]), List.eraseIdx_cons_zero]
    rw [List.filter_eq_self]
    intro x hx
    obtain ⟨j, hj, rfl⟩ := List.getElem_of_mem hx
    have := h (j + 1) t[j] (by simp)
    cases hp : p t[j]
    · exact absurd (this.1 hp) (by omega)
    · rfl
  | a :: t, i + 1, h => by
    have h0 : p a = true := by
      cases hp : p a
      · exact absurd ((h 0 a (by simp)).1 hp) (by omega)
      · rfl
    rw [List.filter_cons, if_pos h0, List.eraseIdx_cons_succ, filter_erase (l := t) (i := i) (fun j x hx => by have := h (j + 1) x (by simpa using hx); rw [this]; omega)]
theorem keepE_val (r : Int) (qs : List EV) : (keepE r qs).map EV.val = (qs.map EV.val).filter (fun v => v.2.2.1 != r) := by
  unfold keepE; rw [List.filter_map]; rfl
theorem keep_erase {vs : List EVal} {r : Int} {i : Nat} (h1 : twiceE vs = false) (hi : findE r vs = (i : Int)) : vs.filter (fun v => v.2.2.1 != r) = vs.eraseIdx i := by
  refine filter_erase fun j x hx => ?_
  have hj := twiceE_once h1 j x hx
  constructor
  · intro hp
    have e : x.2.2.1 = r := by simpa using hp
    rw [e, hi] at hj
    omega
  · rintro rfl
    obtain ⟨v, hv, hr⟩ := findE_at hi
    rw [hx] at hv
    injection hv with hv; subst hv
    simp [hr]
theorem Entries.farOf {w : World} {A : Option Addr} {n : Nat} {qs : List EV} (h : Entries w A n qs) {a : Addr} (hA : 0 < n → ∃ g, A = some ⟨g, 0, none⟩ ∧ g ≠ a.block) (hq : ∀ q ∈ qs, ∃ g1 g2, q.A1 = some ⟨g1, 0, none⟩ ∧ q.A2 = some ⟨g2, 0, none⟩ ∧ g1 ≠ a.block ∧ g2 ≠ a.block) (v : Value) : Entries (w.setCell a v) A n qs := by
  obtain ⟨hl, hr, hp⟩ := h
  refine ⟨hl, fun hn => ?_, fun q hm => ?_⟩
  · obtain ⟨b, o, e, h2, h3⟩ := hr hn
    obtain ⟨g, e', hne⟩ := hA hn
    rw [e'] at e
    injection e with e; injection e with e1 e2; subst e1 e2
    refine ⟨g, 0, e', by rw [size_of_setCell]; exact h2, fun k q hk => ?_⟩
    have cl : ∀ x, (w.setCell a v).cell? ⟨g, x, none⟩ = w.cell? ⟨g, x, none⟩ := fun x => World.cell?_of_block (w := w) (a := ⟨g, x, none⟩) (heap_setCell_other w a g v hne)
    rw [cl, cl, cl, cl]
    exact h3 k q hk
  · obtain ⟨g1, g2, a1, a2, n1, n2⟩ := hq q hm
    obtain ⟨i1, i2, m1, m2⟩ := hp q hm
    rw [a1] at i1; rw [a2] at i2
    exact ⟨by rw [a1]; exact i1.block (Nat.le_of_eq (size_of_setCell _ _ _).symm) (heap_setCell_other w a g1 v n1), by rw [a2]; exact i2.block (Nat.le_of_eq (size_of_setCell _ _ _).symm) (heap_setCell_other w a g2 v n2), m1, m2⟩

/-- The answer R is read from memory. -/
def ReadPost2 (R : Int × Int × Int × Int × List EVal) (w : World) (e : Ending) (w' : World) : Prop :=
  ∃ A' n' c' qs, e = .returned (.agg #[.int .i64 R.1, .int .i64 R.2.1, .int .i64 R.2.2.1, .int .i64 R.2.2.2.1, .slice A' n' c']) ∧ Entries w' A' n' qs ∧ qs.map EV.val = R.2.2.2.2 ∧ n' ≤ 6 ∧ Below w.heap.size w w'
theorem entries_nil (w : World) (A : Option Addr) : Entries w A 0 [] := ⟨rfl, fun h => absurd h (Nat.lt_irrefl 0), fun q hq => by simp at hq⟩

set_option maxRecDepth 100000 in
set_option maxHeartbeats 3200000 in
theorem specWithoutEntry_any (lv ns rt d r : Int) (n c : Nat) (A : Option Addr) (ps : List EV) (w : World) (hp : Entries w A n ps) (hn : n ≤ maxLen) :
    Calls Try.prog 22 #[.agg #[.int .i64 lv, .int .i64 ns, .int .i64 rt, .slice A n c], .int .i64 d, .int .i64 r] w (ReadPost2 (withoutR lv ns rt (ps.map EV.val) d r) w) := by
  have HP := Lib.hid hp
  have HL : Hid ((ps.map EV.val).length = n) := by show List.length _ = n; rw [List.length_map]; exact hp.1
  clear hp
  have B := Lib.hid (below_alloc w (.cells #[.int .i64 lv, .int .i64 ns, .int .i64 rt, .slice A n c] 29))
  replace B := Lib.hid (B.out.alloc B.out.size (.cells #[.int .i64 0, .int .i64 0, .int .i64 0, .int .i64 0, .slice none 0 0] 48))
  have L_n := Lib.hid ((Lies.new w 29 #[.int .i64 lv, .int .i64 ns, .int .i64 rt, .slice A n c]).alloc (.cells #[.int .i64 0, .int .i64 0, .int .i64 0, .int .i64 0, .slice none 0 0] 48))
  have L_r := Lib.hid (Lies.new (w.alloc (.cells #[.int .i64 lv, .int .i64 ns, .int .i64 rt, .slice A n c] 29)) 48 #[.int .i64 0, .int .i64 0, .int .i64 0, .int .i64 0, .slice none 0 0])
  simp only [World.size_alloc] at L_r
  by_cases hz : nodeF lv ns rt (ps.map EV.val) d = 0
  rotate_left
  · have hz1 : (nodeF lv ns rt (ps.map EV.val) d != 0) = true := by simpa using hz
    have HR : Hid (withoutR lv ns rt (ps.map EV.val) d r = (nodeF lv ns rt (ps.map EV.val) d, 0, 0, 0, [])) := by
      show withoutR _ _ _ _ _ _ = _
      have e1 : efC (nodeF lv ns rt (ps.map EV.val) d) (findE r (ps.map EV.val)) = nodeF lv ns rt (ps.map EV.val) d := by unfold efC; rw [if_pos hz]
      unfold withoutR; rw [e1]; exact nrOf_no hz
    clear hz
    go_enter Try.func22, Try.ntmps22
    go_wp2_with fail
    refine (specNodeFault_any _ _ _ _ _ _ _ ps _ (HP.out.kept B.out) hn).mono ?_
    rintro e W1 ⟨rfl, b1⟩
    replace L_n := Lib.hid (L_n.out.kept b1 L_n.out.inside)
    replace L_r := Lib.hid (L_r.out.kept b1 L_r.out.inside)
    replace B := Lib.hid (B.out.trans (b1.mono B.out.size))
    clear b1
    have z0 : W1.cell? ⟨w.heap.size + 1, 0, none⟩ = some (.int .i64 0) := L_r.out.cell 0
    have y0 : W1.frozen? ⟨w.heap.size + 1, 0, none⟩ = false := L_r.out.thawed 0
    have z1 : W1.cell? ⟨w.heap.size + 1, 1, none⟩ = some (.int .i64 0) := L_r.out.cell 1
    have y1 : W1.frozen? ⟨w.heap.size + 1, 1, none⟩ = false := L_r.out.thawed 1
    have z2 : W1.cell? ⟨w.heap.size + 1, 2, none⟩ = some (.int .i64 0) := L_r.out.cell 2
    have y2 : W1.frozen? ⟨w.heap.size + 1, 2, none⟩ = false := L_r.out.thawed 2
    have z3 : W1.cell? ⟨w.heap.size + 1, 3, none⟩ = some (.int .i64 0) := L_r.out.cell 3
    have y3 : W1.frozen? ⟨w.heap.size + 1, 3, none⟩ = false := L_r.out.thawed 3
    have z4 : W1.cell? ⟨w.heap.size + 1, 4, none⟩ = some (.slice none 0 0) := L_r.out.cell 4
    have y4 : W1.frozen? ⟨w.heap.size + 1, 4, none⟩ = false := L_r.out.thawed 4
    go_wp2
    refine bodyPost_ret (v := .agg #[.int .i64 (nodeF lv ns rt (ps.map EV.val) d), .int .i64 0, .int .i64 0, .int .i64 0, .slice none 0 0]) (by simp [results, Try.results22, go_sem, z0, z1, z2, z3, z4]) rfl ?_
    refine ⟨none, 0, 0, [], by rw [HR.out], entries_nil _ _, by rw [HR.out]; rfl, by decide, ?_⟩
    repeat (with_reducible refine Below.setCell ?_ (by exact Nat.le_succ _) _)
    exact B.out
  have hz1 : (nodeF lv ns rt (ps.map EV.val) d != 0) = false := by simp [hz]
  have HZ := Lib.hid hz
  obtain ⟨hok, hn5, hent, _, htw⟩ := nodeF_zero hz
  have HE := Lib.hid (lens_of hent)
  have HT := Lib.hid htw
  have hd2 : 2 ≤ d := hok.1.1
  have hd3 : d ≤ 3 := hok.1.2
  have hn5' : n ≤ 5 := by rw [HL.out] at hn5; exact hn5
  clear hz hok hent hn5 htw
  by_cases hf : findE r (ps.map EV.val) < 0
  · have HR : Hid (withoutR lv ns rt (ps.map EV.val) d r = (4, 0, 0, 0, [])) := by
      show withoutR _ _ _ _ _ _ = _
      have e1 : efC (nodeF lv ns rt (ps.map EV.val) d) (findE r (ps.map EV.val)) = 4 := by unfold efC; rw [if_neg (by simp [HZ.out]), if_pos hf]
      unfold withoutR; rw [e1]; exact nrOf_no (by decide)
    go_enter Try.func22, Try.ntmps22
    go_wp2_with fail
    refine (specNodeFault_any _ _ _ _ _ _ _ ps _ (HP.out.kept B.out) hn).mono ?_
    rintro e W1 ⟨rfl, b1⟩
    replace L_n := Lib.hid (L_n.out.kept b1 L_n.out.inside)
    replace L_r := Lib.hid (L_r.out.kept b1 L_r.out.inside)
    replace B := Lib.hid (B.out.trans (b1.mono B.out.size))
    clear b1
    have q3 : W1.cell? ⟨w.heap.size, 3, none⟩ = some (.slice A n c) := L_n.out.cell 3
    go_wp2_with fail
    refine (l3Find_any _ _ _ _ ps _ (HP.out.kept B.out) hn).mono ?_
    rintro e w' ⟨rfl, rfl⟩
    have z0 : W1.cell? ⟨w.heap.size + 1, 0, none⟩ = some (.int .i64 0) := L_r.out.cell 0
    have y0 : W1.frozen? ⟨w.heap.size + 1, 0, none⟩ = false := L_r.out.thawed 0
    have z1 : W1.cell? ⟨w.heap.size + 1, 1, none⟩ = some (.int .i64 0) := L_r.out.cell 1
    have y1 : W1.frozen? ⟨w.heap.size + 1, 1, none⟩ = false := L_r.out.thawed 1
    have z2 : W1.cell? ⟨w.heap.size + 1, 2, none⟩ = some (.int .i64 0) := L_r.out.cell 2
    have y2 : W1.frozen? ⟨w.heap.size + 1, 2, none⟩ = false := L_r.out.thawed 2
    have z3 : W1.cell? ⟨w.heap.size + 1, 3, none⟩ = some (.int .i64 0) := L_r.out.cell 3
    have y3 : W1.frozen? ⟨w.heap.size + 1, 3, none⟩ = false := L_r.out.thawed 3
    have z4 : W1.cell? ⟨w.heap.size + 1, 4, none⟩ = some (.slice none 0 0) := L_r.out.cell 4
    have y4 : W1.frozen? ⟨w.heap.size + 1, 4, none⟩ = false := L_r.out.thawed 4
    go_wp2
    refine bodyPost_ret (v := .agg #[.int .i64 4, .int .i64 0, .int .i64 0, .int .i64 0, .slice none 0 0]) (by simp [results, Try.results22, go_sem, z0, z1, z2, z3, z4]) rfl ?_
    refine ⟨none, 0, 0, [], by rw [HR.out], entries_nil _ _, by rw [HR.out]; rfl, by decide, ?_⟩
    repeat (with_reducible refine Below.setCell ?_ (by exact Nat.le_succ _) _)
    exact B.out
  · obtain ⟨i, hi⟩ : ∃ i : Nat, findE r (ps.map EV.val) = (i : Int) := ⟨(findE r (ps.map EV.val)).toNat, by omega⟩
    have HR : Hid (withoutR lv ns rt (ps.map EV.val) d r = (0, lv, ns, rt, (ps.map EV.val).eraseIdx i)) := by
      show withoutR _ _ _ _ _ _ = _
      have e1 : efC (nodeF lv ns rt (ps.map EV.val) d) (findE r (ps.map EV.val)) = 0 := by unfold efC; rw [if_neg (by simp [HZ.out]), if_neg hf]
      unfold withoutR; rw [e1, nrOf_yes rfl, hi, Int.toNat_natCast]
    have HKE := Lib.hid (keep_erase HT.out hi)
    clear hi
    go_enter Try.func22, Try.ntmps22
    go_wp2_with fail
    refine (specNodeFault_any _ _ _ _ _ _ _ ps _ (HP.out.kept B.out) hn).mono ?_
    rintro e W1 ⟨rfl, b1⟩
    replace L_n := Lib.hid (L_n.out.kept b1 L_n.out.inside)
    replace L_r := Lib.hid (L_r.out.kept b1 L_r.out.inside)
    replace B := Lib.hid (B.out.trans (b1.mono B.out.size))
    clear b1
    have q0 : W1.cell? ⟨w.heap.size, 0, none⟩ = some (.int .i64 lv) := L_n.out.cell 0
    have q1 : W1.cell? ⟨w.heap.size, 1, none⟩ = some (.int .i64 ns) := L_n.out.cell 1
    have q2 : W1.cell? ⟨w.heap.size, 2, none⟩ = some (.int .i64 rt) := L_n.out.cell 2
    have q3 : W1.cell? ⟨w.heap.size, 3, none⟩ = some (.slice A n c) := L_n.out.cell 3
    have hw1 : w.heap.size < W1.heap.size := L_n.out.inside
    go_wp2_with fail
    refine (l3Find_any _ _ _ _ ps _ (HP.out.kept B.out) hn).mono ?_
    rintro e w' ⟨rfl, rfl⟩
    go_wp2_with fail
    refine (l3Copy_any lv ns rt w.heap.size n c d.toNat A ps _ hw1 q0 q1 q2 q3 (HP.out.kept B.out) (by omega) (by omega) (by omega) HE.out).mono ?_
    rintro e W2 ⟨A2, c2, qs, rfl, hrow, vq, b2⟩
    have hr1 := L_r.out.inside
    have b2s := b2.size
    replace L_r := Lib.hid (L_r.out.kept b2 L_r.out.inside)
    replace B := Lib.hid (B.out.trans (b2.mono B.out.size))
    have RW := Lib.hid hrow
    have VQ := Lib.hid vq
    obtain ⟨A3, c3, e3, hen⟩ := hrow.entries
    injection e3 with e31 e32 e33
    subst e31 e33
    have HEN := Lib.hid (hen.kept (below_alloc W2 (.cells #[.int .i64 lv, .int .i64 ns, .int .i64 rt, .slice A2 n c2] 29)))
    clear b2 hrow vq hen q0 q1 q2 q3 L_n
    replace L_r := Lib.hid (L_r.out.alloc (.cells #[.int .i64 lv, .int .i64 ns, .int .i64 rt, .slice A2 n c2] 29))
    have L_o := Lib.hid (Lies.new W2 29 #[.int .i64 lv, .int .i64 ns, .int .i64 rt, .slice A2 n c2])
    replace B := Lib.hid (B.out.alloc B.out.size (.cells #[.int .i64 lv, .int .i64 ns, .int .i64 rt, .slice A2 n c2] 29))
    go_wp2_with fail
    refine (l3Without_any r n c2 A2 qs _ HEN.out (by omega)).mono ?_
    rintro e W3 ⟨A4, c4, rfl, hek, hfo, b3⟩
    simp only [World.size_alloc] at hfo
    replace L_r := Lib.hid (L_r.out.kept b3 L_r.out.inside)
    replace L_o := Lib.hid (L_o.out.kept b3 L_o.out.inside)
    replace B := Lib.hid (B.out.trans (b3.mono B.out.size))
    have HEK := Lib.hid hek
    have HFO := Lib.hid hfo
    have HKL : (keepE r qs).length ≤ 5 := by
      have h1 := keepE_len r qs
      have h2 := congrArg List.length VQ.out
      simp only [List.length_map] at h2
      have h3 := HP.out.1
      omega
    have HV : Hid ((keepE r qs).map EV.val = (ps.map EV.val).eraseIdx i) := by show List.map _ _ = _; rw [keepE_val, VQ.out]; exact HKE.out
    have HQ : Hid (∀ q ∈ keepE r qs, ∃ g1 g2, q.A1 = some ⟨g1, 0, none⟩ ∧ q.A2 = some ⟨g2, 0, none⟩ ∧ (W1.heap.size + 1 + 1 ≤ g1 ∧ g1 < W2.heap.size) ∧ (W1.heap.size + 1 + 1 ≤ g2 ∧ g2 < W2.heap.size)) := by
      intro q hq
      obtain ⟨g1, g2, a1, a2, a3, a4, a5, a6, _⟩ := RW.out.R q (keepE_mem hq)
      exact ⟨g1, g2, a1, a2, ⟨a3, a5⟩, ⟨a4, a6⟩⟩
    clear b3 hek hfo HEN
    generalize hkq : keepE r qs = kq at *
    generalize hkn : kq.length = kn at *
    clear hkq hkn RW VQ
    have FA : Hid (∀ (W : World) (x : Nat) (o : Nat) (v : Value), x = W2.heap.size ∨ x = w.heap.size + 1 → Entries W A4 kn kq → Entries (W.setCell ⟨x, o, none⟩ v) A4 kn kq) := by
      intro W x o v hx hE
      refine hE.farOf (fun hp => ?_) (fun q hq => ?_) v
      · obtain ⟨g, e, hg⟩ := HFO.out hp
        exact ⟨g, e, by show g ≠ x; omega⟩
      · obtain ⟨g1, g2, a1, a2, a3, a4⟩ := HQ.out q hq
        exact ⟨g1, g2, a1, a2, by show g1 ≠ x; omega, by show g2 ≠ x; omega⟩
    have o0 : W3.cell? ⟨W2.heap.size, 0, none⟩ = some (.int .i64 lv) := L_o.out.cell 0
    have o1 : W3.cell? ⟨W2.heap.size, 1, none⟩ = some (.int .i64 ns) := L_o.out.cell 1
    have o2 : W3.cell? ⟨W2.heap.size, 2, none⟩ = some (.int .i64 rt) := L_o.out.cell 2
    have o3 : W3.cell? ⟨W2.heap.size, 3, none⟩ = some (.slice A2 n c2) := L_o.out.cell 3
    have p3 : W3.frozen? ⟨W2.heap.size, 3, none⟩ = false := L_o.out.thawed 3
    have nb1 : ¬ w.heap.size + 1 = W2.heap.size := by omega
    have nb2 : ¬ W2.heap.size = w.heap.size + 1 := by omega
    have z0 : W3.cell? ⟨w.heap.size + 1, 0, none⟩ = some (.int .i64 0) := L_r.out.cell 0
    have y0 : W3.frozen? ⟨w.heap.size + 1, 0, none⟩ = false := L_r.out.thawed 0
    have z1 : W3.cell? ⟨w.heap.size + 1, 1, none⟩ = some (.int .i64 0) := L_r.out.cell 1
    have y1 : W3.frozen? ⟨w.heap.size + 1, 1, none⟩ = false := L_r.out.thawed 1
    have z2 : W3.cell? ⟨w.heap.size + 1, 2, none⟩ = some (.int .i64 0) := L_r.out.cell 2
    have y2 : W3.frozen? ⟨w.heap.size + 1, 2, none⟩ = false := L_r.out.thawed 2
    have z3 : W3.cell? ⟨w.heap.size + 1, 3, none⟩ = some (.int .i64 0) := L_r.out.cell 3
    have y3 : W3.frozen? ⟨w.heap.size + 1, 3, none⟩ = false := L_r.out.thawed 3
    have z4 : W3.cell? ⟨w.heap.size + 1, 4, none⟩ = some (.slice none 0 0) := L_r.out.cell 4
    have y4 : W3.frozen? ⟨w.heap.size + 1, 4, none⟩ = false := L_r.out.thawed 4
    go_wp2
    refine bodyPost_ret (v := .agg #[.int .i64 0, .int .i64 lv, .int .i64 ns, .int .i64 rt, .slice A4 kn c4]) (by simp [results, Try.results22, go_sem, z0, z1, z2, z3, z4, nb1, nb2]) rfl ?_
    refine ⟨A4, kn, c4, kq, by rw [HR.out], ?_, by rw [HR.out]; exact HV.out, by omega, ?_⟩
    · exact FA.out _ _ _ _ (Or.inr rfl) (FA.out _ _ _ _ (Or.inr rfl) (FA.out _ _ _ _ (Or.inr rfl) (FA.out _ _ _ _ (Or.inr rfl) (FA.out _ _ _ _ (Or.inr rfl) (FA.out _ _ _ _ (Or.inl rfl) HEK.out)))))
    · with_reducible (repeat (first | exact B.out | refine Below.setCell ?_ ?_ _))
      all_goals (first | (show w.heap.size ≤ w.heap.size + 1; omega) | (show w.heap.size ≤ W2.heap.size; omega))

end Go.Proofs.Ytblhcnafoejahaa
