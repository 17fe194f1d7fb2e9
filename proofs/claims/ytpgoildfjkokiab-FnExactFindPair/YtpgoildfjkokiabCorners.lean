/- The walks of impl.cornerFrom, impl.boxFrom, (corner).point, (box).rect, impl.dimsOf, impl.rectsFault: for points of two or three numbers. -/
import Derived.Test.YtpgoildfjkokiabBoxes2
import Derived.Laws.CopyOwn
import Derived.Deep.RegionHeld3
namespace Go.Proofs.Ytpgoildfjkokiab
open Go.RowKit

theorem size_i64 : (Try.prog.info? 2).map (·.size) = some 1 := by kernel_rfl

theorem add_none (b o k : Nat) : (⟨b, o, none⟩ : Addr).add k = ⟨b, o + k, none⟩ := by unfold Addr.add; split <;> simp_all

/-- Where a slice's cells are, as copy asks it. -/
theorem Ints.source {w : World} {lo n : Nat} {A : Option Addr} {xs : List Int} (h : Ints w lo A n xs) (hp : 0 < n) :
    ∃ ad, A = some ad ∧ ∀ j v, (xs.map (Value.int .i64))[j]? = some v → w.cell? (ad.add j) = some v := by
  obtain ⟨b, o, e, _, _, h3⟩ := h.2 hp
  refine ⟨_, e, fun j v hv => ?_⟩
  rw [List.getElem?_map] at hv
  obtain ⟨x, hx, rfl⟩ := Option.map_eq_some_iff.1 hv
  rw [add_none]
  exact h3 j x hx

theorem Hid.lies {w : World} {g : Nat} {t : TypeId} {cs : Array Value} (h : Hid (w.heap[g]? = some (.cells cs t (0, 0)))) : Lies w g t cs := h

set_option maxHeartbeats 800000 in
theorem cornerFrom2 (lo c : Nat) (A : Option Addr) (x0 x1 : Int) (w : World) (hx : Ints w lo A 2 [x0, x1]) :
    Calls Try.prog 44 #[.slice A 2 c] w fun e w' => e = .returned (.agg #[.int .i64 x0, .int .i64 x1, .int .i64 0]) ∧ Below w.heap.size w w' := by
  have B0 : Hid (Below w.heap.size w ((w.alloc (.cells #[.int .i64 0, .int .i64 0, .int .i64 0] 52)).alloc (.cells #[.int .i64 0, .int .i64 0, .int .i64 0] 52))) := (below_alloc _ _).alloc (by simp) _
  have HX := Lib.hid (hx.kept B0.out)
  have L0 := Lib.hid ((Lies.new w 52 #[.int .i64 0, .int .i64 0, .int .i64 0]).alloc (.cells #[.int .i64 0, .int .i64 0, .int .i64 0] 52))
  have L1 := Lib.hid (Lies.new (w.alloc (.cells #[.int .i64 0, .int .i64 0, .int .i64 0] 52)) 52 #[.int .i64 0, .int .i64 0, .int .i64 0])
  simp only [World.size_alloc] at L1
  clear hx
  go_enter Try.func44, Try.ntmps44
  go_wp2_with (with_reducible refine wpList_copy_splice rfl (.tmp 4) (.tmp 5) 24 24 rfl 2 Try.underlying24 size_i64 _ _ _ _ _ _ rfl rfl (w.heap.size + 1) 0 [.int .i64 0, .int .i64 0, .int .i64 0] 52 ?q1 [.int .i64 x0, .int .i64 x1] ?q2 ?q3 ?q4 ?q5 (w.heap.size + 1) ((w.alloc (.cells #[.int .i64 0, .int .i64 0, .int .i64 0] 52)).alloc (.cells #[.int .i64 0, .int .i64 0, .int .i64 0] 52)) ?q6 ?q7 ?_)
  case q1 => exact L1.out
  case q2 => rfl
  case q3 => exact HX.out.source (by decide)
  case q4 => simp
  case q5 => intro v hv; simp at hv; rcases hv with rfl | rfl <;> rfl
  case q6 => exact Below.refl _ _
  case q7 => exact Nat.le_refl _
  intro w2 HG hb
  have L2 : Hid (Lies w2 (w.heap.size + 1) 52 #[.int .i64 x0, .int .i64 x1, .int .i64 0]) := HG
  replace L0 := Lib.hid (L0.out.kept hb (Nat.lt_succ_self _))
  have B2 := Lib.hid (B0.out.trans (hb.mono (Nat.le_succ _)))
  clear hb HG L1 B0 HX
  have d0 : w2.cell? ⟨w.heap.size + 1, 0, none⟩ = some (.int .i64 x0) := L2.out.cell 0
  have e0 : w2.cell? ⟨w.heap.size, 0, none⟩ = some (.int .i64 0) := L0.out.cell 0
  have f0 : w2.frozen? ⟨w.heap.size, 0, none⟩ = false := L0.out.thawed 0
  have d1 : w2.cell? ⟨w.heap.size + 1, 1, none⟩ = some (.int .i64 x1) := L2.out.cell 1
  have e1 : w2.cell? ⟨w.heap.size, 1, none⟩ = some (.int .i64 0) := L0.out.cell 1
  have f1 : w2.frozen? ⟨w.heap.size, 1, none⟩ = false := L0.out.thawed 1
  have d2 : w2.cell? ⟨w.heap.size + 1, 2, none⟩ = some (.int .i64 0) := L2.out.cell 2
  have e2 : w2.cell? ⟨w.heap.size, 2, none⟩ = some (.int .i64 0) := L0.out.cell 2
  have f2 : w2.frozen? ⟨w.heap.size, 2, none⟩ = false := L0.out.thawed 2
  go_wp2
  refine bodyPost_ret (v := .agg #[.int .i64 x0, .int .i64 x1, .int .i64 0]) (by simp [results, Try.results44, go_sem, e0, e1, e2]) rfl ⟨rfl, ?_⟩
  exact by repeat (first | exact B2.out | refine Below.setCell ?_ (by exact Nat.le_refl _) _)

set_option maxHeartbeats 800000 in
theorem cornerFrom3 (lo c : Nat) (A : Option Addr) (x0 x1 x2 : Int) (w : World) (hx : Ints w lo A 3 [x0, x1, x2]) :
    Calls Try.prog 44 #[.slice A 3 c] w fun e w' => e = .returned (.agg #[.int .i64 x0, .int .i64 x1, .int .i64 x2]) ∧ Below w.heap.size w w' := by
  have B0 : Hid (Below w.heap.size w ((w.alloc (.cells #[.int .i64 0, .int .i64 0, .int .i64 0] 52)).alloc (.cells #[.int .i64 0, .int .i64 0, .int .i64 0] 52))) := (below_alloc _ _).alloc (by simp) _
  have HX := Lib.hid (hx.kept B0.out)
  have L0 := Lib.hid ((Lies.new w 52 #[.int .i64 0, .int .i64 0, .int .i64 0]).alloc (.cells #[.int .i64 0, .int .i64 0, .int .i64 0] 52))
  have L1 := Lib.hid (Lies.new (w.alloc (.cells #[.int .i64 0, .int .i64 0, .int .i64 0] 52)) 52 #[.int .i64 0, .int .i64 0, .int .i64 0])
  simp only [World.size_alloc] at L1
  clear hx
  go_enter Try.func44, Try.ntmps44
  go_wp2_with (with_reducible refine wpList_copy_splice rfl (.tmp 4) (.tmp 5) 24 24 rfl 2 Try.underlying24 size_i64 _ _ _ _ _ _ rfl rfl (w.heap.size + 1) 0 [.int .i64 0, .int .i64 0, .int .i64 0] 52 ?q1 [.int .i64 x0, .int .i64 x1, .int .i64 x2] ?q2 ?q3 ?q4 ?q5 (w.heap.size + 1) ((w.alloc (.cells #[.int .i64 0, .int .i64 0, .int .i64 0] 52)).alloc (.cells #[.int .i64 0, .int .i64 0, .int .i64 0] 52)) ?q6 ?q7 ?_)
  case q1 => exact L1.out
  case q2 => rfl
  case q3 => exact HX.out.source (by decide)
  case q4 => simp
  case q5 => intro v hv; simp at hv; rcases hv with rfl | rfl | rfl <;> rfl
  case q6 => exact Below.refl _ _
  case q7 => exact Nat.le_refl _
  intro w2 HG hb
  have L2 : Hid (Lies w2 (w.heap.size + 1) 52 #[.int .i64 x0, .int .i64 x1, .int .i64 x2]) := HG
  replace L0 := Lib.hid (L0.out.kept hb (Nat.lt_succ_self _))
  have B2 := Lib.hid (B0.out.trans (hb.mono (Nat.le_succ _)))
  clear hb HG L1 B0 HX
  have d0 : w2.cell? ⟨w.heap.size + 1, 0, none⟩ = some (.int .i64 x0) := L2.out.cell 0
  have e0 : w2.cell? ⟨w.heap.size, 0, none⟩ = some (.int .i64 0) := L0.out.cell 0
  have f0 : w2.frozen? ⟨w.heap.size, 0, none⟩ = false := L0.out.thawed 0
  have d1 : w2.cell? ⟨w.heap.size + 1, 1, none⟩ = some (.int .i64 x1) := L2.out.cell 1
  have e1 : w2.cell? ⟨w.heap.size, 1, none⟩ = some (.int .i64 0) := L0.out.cell 1
  have f1 : w2.frozen? ⟨w.heap.size, 1, none⟩ = false := L0.out.thawed 1
  have d2 : w2.cell? ⟨w.heap.size + 1, 2, none⟩ = some (.int .i64 x2) := L2.out.cell 2
  have e2 : w2.cell? ⟨w.heap.size, 2, none⟩ = some (.int .i64 0) := L0.out.cell 2
  have f2 : w2.frozen? ⟨w.heap.size, 2, none⟩ = false := L0.out.thawed 2
  go_wp2
  refine bodyPost_ret (v := .agg #[.int .i64 x0, .int .i64 x1, .int .i64 x2]) (by simp [results, Try.results44, go_sem, e0, e1, e2]) rfl ⟨rfl, ?_⟩
  exact by repeat (first | exact B2.out | refine Below.setCell ?_ (by exact Nat.le_refl _) _)

/-- The numbers of a point of two or three dimensions, as a corner holds them. -/
def Pad (xs : List Int) (p0 p1 p2 : Int) : Prop := (xs = [p0, p1] ∧ p2 = 0) ∨ xs = [p0, p1, p2]

theorem pad_of {xs : List Int} (h : xs.length = 2 ∨ xs.length = 3) : ∃ p0 p1 p2, Pad xs p0 p1 p2 := by
  match xs, h with
  | [a, b], _ => exact ⟨a, b, 0, .inl ⟨rfl, rfl⟩⟩
  | [a, b, c], _ => exact ⟨a, b, c, .inr rfl⟩
  | [], h => simp at h
  | [_], h => simp at h
  | _ :: _ :: _ :: _ :: _, h => simp at h

theorem cornerFrom_any (lo n c : Nat) (A : Option Addr) (xs : List Int) (p0 p1 p2 : Int) (w : World) (hp : Pad xs p0 p1 p2) (hx : Ints w lo A n xs) :
    Calls Try.prog 44 #[.slice A n c] w fun e w' => e = .returned (.agg #[.int .i64 p0, .int .i64 p1, .int .i64 p2]) ∧ Below w.heap.size w w' := by
  rcases hp with ⟨rfl, rfl⟩ | rfl
  · obtain rfl : 2 = n := hx.1
    exact cornerFrom2 lo c A p0 p1 w hx
  · obtain rfl : 3 = n := hx.1
    exact cornerFrom3 lo c A p0 p1 p2 w hx


set_option maxHeartbeats 800000 in
theorem boxFrom_any (lo n c lo' n' c' : Nat) (A A' : Option Addr) (xs ys : List Int) (p0 p1 p2 q0 q1 q2 : Int) (w : World) (hp : Pad xs p0 p1 p2) (hq : Pad ys q0 q1 q2) (hx : Ints w lo A n xs) (hy : Ints w lo' A' n' ys) :
    Calls Try.prog 34 #[.agg #[.slice A n c, .slice A' n' c']] w fun e w' => e = .returned (.agg #[.int .i64 p0, .int .i64 p1, .int .i64 p2, .int .i64 q0, .int .i64 q1, .int .i64 q2]) ∧ Below w.heap.size w w' := by
  have B0 : Hid (Below w.heap.size w ((w.alloc (.cells #[.slice A n c, .slice A' n' c'] 26)).alloc (.cells #[.int .i64 0, .int .i64 0, .int .i64 0, .int .i64 0, .int .i64 0, .int .i64 0] 54))) := (below_alloc _ _).alloc (by simp) _
  have HX := Lib.hid hx
  have HY := Lib.hid hy
  have HP := Lib.hid hp
  have HQ := Lib.hid hq
  have L0 := Lib.hid ((Lies.new w 26 #[.slice A n c, .slice A' n' c']).alloc (.cells #[.int .i64 0, .int .i64 0, .int .i64 0, .int .i64 0, .int .i64 0, .int .i64 0] 54))
  have L1 := Lib.hid (Lies.new (w.alloc (.cells #[.slice A n c, .slice A' n' c'] 26)) 54 #[.int .i64 0, .int .i64 0, .int .i64 0, .int .i64 0, .int .i64 0, .int .i64 0])
  simp only [World.size_alloc] at L1
  clear hx hy hp hq
  go_enter Try.func34, Try.ntmps34
  go_wp2
  generalize hW : ((w.alloc (.cells #[.slice A n c, .slice A' n' c'] 26)).alloc (.cells #[.int .i64 0, .int .i64 0, .int .i64 0, .int .i64 0, .int .i64 0, .int .i64 0] 54)) = W0 at *
  clear hW
  have c0 : W0.cell? ⟨w.heap.size, 0, none⟩ = some (.slice A n c) := L0.out.cell 0
  have c1 : W0.cell? ⟨w.heap.size, 1, none⟩ = some (.slice A' n' c') := L0.out.cell 1
  go_region_held3 (fun w' => w'.cell? ⟨w.heap.size, 0, none⟩ = some (.slice A n c) ∧ w'.cell? ⟨w.heap.size, 1, none⟩ = some (.slice A' n' c'))
    (first | (simp [go_sem, c0, c1]; done) | with_reducible exact K1 | with_reducible exact K2 | (simp [go_sem, K2.1, K2.2]; done))
    (first
      | (go_at_call_of 44 (Value.slice A n c); go_must (refine (cornerFrom_any _ _ _ _ _ _ _ _ _ HP.out (HX.out.kept (by first | exact B0.out | exact B0.out.drew))).mono ?_)
         rintro e W1 ⟨rfl, b1d⟩
         have b1 := below_drawn b1d
         have K1 : W1.cell? ⟨w.heap.size, 0, none⟩ = some (.slice A n c) ∧ W1.cell? ⟨w.heap.size, 1, none⟩ = some (.slice A' n' c') := ⟨(L0.out.kept b1 L0.out.inside).cell 0, (L0.out.kept b1 L0.out.inside).cell 1⟩
         clear b1d)
      | (go_at_call_of 44 (Value.slice A' n' c'); refine (cornerFrom_any _ _ _ _ _ _ _ _ _ HQ.out (HY.out.kept (B0.out.trans (b1.mono (B0.out.size))))).mono ?_
         rintro e W2 ⟨rfl, b2⟩
         have K2 : W2.cell? ⟨w.heap.size, 0, none⟩ = some (.slice A n c) ∧ W2.cell? ⟨w.heap.size, 1, none⟩ = some (.slice A' n' c') := ⟨((L0.out.kept b1 L0.out.inside).kept b2 (L0.out.kept b1 L0.out.inside).inside).cell 0, ((L0.out.kept b1 L0.out.inside).kept b2 (L0.out.kept b1 L0.out.inside).inside).cell 1⟩
         have z0 : W2.cell? ⟨w.heap.size + 1, 0, none⟩ = some (.int .i64 0) := ((L1.out.kept b1 L1.out.inside).kept b2 (L1.out.kept b1 L1.out.inside).inside).cell 0
         have y0 : W2.frozen? ⟨w.heap.size + 1, 0, none⟩ = false := ((L1.out.kept b1 L1.out.inside).kept b2 (L1.out.kept b1 L1.out.inside).inside).thawed 0
         have z1 : W2.cell? ⟨w.heap.size + 1, 1, none⟩ = some (.int .i64 0) := ((L1.out.kept b1 L1.out.inside).kept b2 (L1.out.kept b1 L1.out.inside).inside).cell 1
         have y1 : W2.frozen? ⟨w.heap.size + 1, 1, none⟩ = false := ((L1.out.kept b1 L1.out.inside).kept b2 (L1.out.kept b1 L1.out.inside).inside).thawed 1
         have z2 : W2.cell? ⟨w.heap.size + 1, 2, none⟩ = some (.int .i64 0) := ((L1.out.kept b1 L1.out.inside).kept b2 (L1.out.kept b1 L1.out.inside).inside).cell 2
         have y2 : W2.frozen? ⟨w.heap.size + 1, 2, none⟩ = false := ((L1.out.kept b1 L1.out.inside).kept b2 (L1.out.kept b1 L1.out.inside).inside).thawed 2
         have z3 : W2.cell? ⟨w.heap.size + 1, 3, none⟩ = some (.int .i64 0) := ((L1.out.kept b1 L1.out.inside).kept b2 (L1.out.kept b1 L1.out.inside).inside).cell 3
         have y3 : W2.frozen? ⟨w.heap.size + 1, 3, none⟩ = false := ((L1.out.kept b1 L1.out.inside).kept b2 (L1.out.kept b1 L1.out.inside).inside).thawed 3
         have z4 : W2.cell? ⟨w.heap.size + 1, 4, none⟩ = some (.int .i64 0) := ((L1.out.kept b1 L1.out.inside).kept b2 (L1.out.kept b1 L1.out.inside).inside).cell 4
         have y4 : W2.frozen? ⟨w.heap.size + 1, 4, none⟩ = false := ((L1.out.kept b1 L1.out.inside).kept b2 (L1.out.kept b1 L1.out.inside).inside).thawed 4
         have z5 : W2.cell? ⟨w.heap.size + 1, 5, none⟩ = some (.int .i64 0) := ((L1.out.kept b1 L1.out.inside).kept b2 (L1.out.kept b1 L1.out.inside).inside).cell 5
         have y5 : W2.frozen? ⟨w.heap.size + 1, 5, none⟩ = false := ((L1.out.kept b1 L1.out.inside).kept b2 (L1.out.kept b1 L1.out.inside).inside).thawed 5))
  go_wp2
  refine bodyPost_ret (v := .agg #[.int .i64 p0, .int .i64 p1, .int .i64 p2, .int .i64 q0, .int .i64 q1, .int .i64 q2]) (by simp [results, Try.results34, go_sem, z0, z1, z2, z3, z4, z5]) rfl ⟨rfl, ?_⟩
  have BE := (B0.out.trans (b1.mono B0.out.size)).trans (b2.mono (Nat.le_trans B0.out.size b1.size))
  repeat (with_reducible refine Below.setCell ?_ (by exact Nat.le_succ _) _)
  exact BE

/-- A row that a copy has filled. -/
theorem own_of_lies {w : World} {g n : Nat} {xs : List Int} {cs : Array Value} (hl : xs.length = n) (h : Lies w g 2 cs) (hc : cs = (xs.map (Value.int .i64)).toArray) : Own w g n xs := by
  refine ⟨hl, cs, h, ?_, fun i hi => ?_⟩
  · rw [hc]; simp [hl]
  · rw [hc, ← hl] at *
    simp [hi]

set_option maxHeartbeats 800000 in
theorem point2 (p0 p1 p2 : Int) (w : World) :
    Calls Try.prog 45 #[.agg #[.int .i64 p0, .int .i64 p1, .int .i64 p2], .int .i64 2] w fun e w' => e = .returned (.slice (some ⟨w.heap.size + 1, 0, none⟩) 2 2) ∧ Own w' (w.heap.size + 1) 2 [p0, p1] ∧ Below w.heap.size w w' := by
  have hmk : ∀ W : World, (Instr.makeSlice 24 (.int .i64 2) (.int .i64 2)).run Try.prog W = .ok (.slice (some ⟨W.heap.size, 0, none⟩) 2 2) (W.alloc (.cells #[.int .i64 0, .int .i64 0] 2)) := fun _ => by kernel_rfl
  have B0 : Hid (Below w.heap.size w ((w.alloc (.cells #[.int .i64 p0, .int .i64 p1, .int .i64 p2] 52)).alloc (.cells #[.int .i64 0, .int .i64 0] 2))) := (below_alloc _ _).alloc (by simp) _
  have L0 := Lib.hid ((Lies.new w 52 #[.int .i64 p0, .int .i64 p1, .int .i64 p2]).alloc (.cells #[.int .i64 0, .int .i64 0] 2))
  have L1 := Lib.hid (Lies.new (w.alloc (.cells #[.int .i64 p0, .int .i64 p1, .int .i64 p2] 52)) 2 #[.int .i64 0, .int .i64 0])
  simp only [World.size_alloc] at L1
  go_enter Try.func45, Try.ntmps45
  go_wp2_with (with_reducible refine wpList_copy_splice rfl (.tmp 8) (.tmp 9) 24 24 rfl 2 Try.underlying24 size_i64 _ _ _ _ _ _ rfl rfl (w.heap.size + 1) 0 [.int .i64 0, .int .i64 0] 2 ?q1 [.int .i64 p0, .int .i64 p1] ?q2 ?q3 ?q4 ?q5 (w.heap.size + 1) ((w.alloc (.cells #[.int .i64 p0, .int .i64 p1, .int .i64 p2] 52)).alloc (.cells #[.int .i64 0, .int .i64 0] 2)) ?q6 ?q7 ?_)
  case q1 => exact L1.out
  case q2 => rfl
  case q3 =>
    intro j v hj
    match j, hj with
    | 0, hj => simpa using hj
    | 1, hj => simpa using hj
    | k + 2, hj => simp at hj
  case q4 => simp
  case q5 => intro v hv; simp at hv; rcases hv with rfl | rfl <;> rfl
  case q6 => exact Below.refl _ _
  case q7 => exact Nat.le_refl _
  intro w2 HG hb
  have L2 : Hid (Lies w2 (w.heap.size + 1) 2 #[.int .i64 p0, .int .i64 p1]) := HG
  have B2 := Lib.hid (B0.out.trans (hb.mono (Nat.le_succ _)))
  clear hb HG L1 B0 hmk
  go_wp2
  go_ret
  exact ⟨rfl, own_of_lies rfl L2.out rfl, B2.out⟩

set_option maxHeartbeats 800000 in
theorem point3 (p0 p1 p2 : Int) (w : World) :
    Calls Try.prog 45 #[.agg #[.int .i64 p0, .int .i64 p1, .int .i64 p2], .int .i64 3] w fun e w' => e = .returned (.slice (some ⟨w.heap.size + 1, 0, none⟩) 3 3) ∧ Own w' (w.heap.size + 1) 3 [p0, p1, p2] ∧ Below w.heap.size w w' := by
  have hmk : ∀ W : World, (Instr.makeSlice 24 (.int .i64 3) (.int .i64 3)).run Try.prog W = .ok (.slice (some ⟨W.heap.size, 0, none⟩) 3 3) (W.alloc (.cells #[.int .i64 0, .int .i64 0, .int .i64 0] 2)) := fun _ => by kernel_rfl
  have B0 : Hid (Below w.heap.size w ((w.alloc (.cells #[.int .i64 p0, .int .i64 p1, .int .i64 p2] 52)).alloc (.cells #[.int .i64 0, .int .i64 0, .int .i64 0] 2))) := (below_alloc _ _).alloc (by simp) _
  have L0 := Lib.hid ((Lies.new w 52 #[.int .i64 p0, .int .i64 p1, .int .i64 p2]).alloc (.cells #[.int .i64 0, .int .i64 0, .int .i64 0] 2))
  have L1 := Lib.hid (Lies.new (w.alloc (.cells #[.int .i64 p0, .int .i64 p1, .int .i64 p2] 52)) 2 #[.int .i64 0, .int .i64 0, .int .i64 0])
  simp only [World.size_alloc] at L1
  go_enter Try.func45, Try.ntmps45
  go_wp2_with (with_reducible refine wpList_copy_splice rfl (.tmp 8) (.tmp 9) 24 24 rfl 2 Try.underlying24 size_i64 _ _ _ _ _ _ rfl rfl (w.heap.size + 1) 0 [.int .i64 0, .int .i64 0, .int .i64 0] 2 ?q1 [.int .i64 p0, .int .i64 p1, .int .i64 p2] ?q2 ?q3 ?q4 ?q5 (w.heap.size + 1) ((w.alloc (.cells #[.int .i64 p0, .int .i64 p1, .int .i64 p2] 52)).alloc (.cells #[.int .i64 0, .int .i64 0, .int .i64 0] 2)) ?q6 ?q7 ?_)
  case q1 => exact L1.out
  case q2 => rfl
  case q4 => simp
  case q5 => intro v hv; simp at hv; rcases hv with rfl | rfl | rfl <;> rfl
  case q6 => exact Below.refl _ _
  case q7 => exact Nat.le_refl _
  intro w2 HG hb
  have L2 : Hid (Lies w2 (w.heap.size + 1) 2 #[.int .i64 p0, .int .i64 p1, .int .i64 p2]) := HG
  have B2 := Lib.hid (B0.out.trans (hb.mono (Nat.le_succ _)))
  clear hb HG L1 B0 hmk
  go_wp2
  go_ret
  exact ⟨rfl, own_of_lies rfl L2.out rfl, B2.out⟩

theorem point_any (p0 p1 p2 d : Int) (n : Nat) (xs : List Int) (w : World) (hp : Pad xs p0 p1 p2) (hn : xs.length = n) (hd : d = n) :
    Calls Try.prog 45 #[.agg #[.int .i64 p0, .int .i64 p1, .int .i64 p2], .int .i64 d] w fun e w' => ∃ g, e = .returned (.slice (some ⟨g, 0, none⟩) n n) ∧ w.heap.size ≤ g ∧ Own w' g n xs ∧ Below w.heap.size w w' := by
  rcases hp with ⟨rfl, rfl⟩ | rfl
  · obtain rfl : 2 = n := hn
    subst hd
    exact (point2 p0 p1 0 w).mono fun _ _ h => ⟨_, h.1, Nat.le_succ _, h.2⟩
  · obtain rfl : 3 = n := hn
    subst hd
    exact (point3 p0 p1 p2 w).mono fun _ _ h => ⟨_, h.1, Nat.le_succ _, h.2⟩

end Go.Proofs.Ytpgoildfjkokiab
