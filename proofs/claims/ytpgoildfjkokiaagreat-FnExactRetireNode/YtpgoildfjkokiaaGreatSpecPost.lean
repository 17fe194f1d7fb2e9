/- What the model answers when it answers an arena: it lies in memory that the call laid; that a world left some blocks alone. -/
import Derived.Test.YtpgoildfjkokiaaGreatSpecArena5
import Derived.Test.YtpgoildfjkokiaaGreatFilters
namespace Go.Proofs.YtpgoildfjkokiaaGreat
open Go.RowKit

/-- The blocks of W from lo on stand in w as they were. -/
def Stay (W w : World) (lo : Nat) : Prop := W.heap.size ≤ w.heap.size ∧ ∀ b, lo ≤ b → b < W.heap.size → w.heap[b]? = W.heap[b]?
theorem Stay.refl (W : World) (lo : Nat) : Stay W W lo := ⟨Nat.le_refl _, fun _ _ _ => rfl⟩
theorem Stay.far {W w : World} {lo : Nat} {a : Addr} (h : Stay W w lo) (ha : a.block < lo ∨ W.heap.size ≤ a.block) (v : Value) : Stay W (w.setCell a v) lo :=
  ⟨Nat.le_trans h.1 (Nat.le_of_eq (size_of_setCell _ _ _).symm), fun b h1 h2 => (heap_setCell_other w a b v (by omega)).trans (h.2 b h1 h2)⟩
theorem Stay.call {W w w' : World} {lo : Nat} (h : Stay W w lo) (hb : Below w.heap.size w w') : Stay W w' lo :=
  ⟨Nat.le_trans h.1 hb.size, fun b h1 h2 => (hb.block b (Nat.lt_of_lt_of_le h2 h.1)).trans (h.2 b h1 h2)⟩
theorem Stay.alloc {W w : World} {lo : Nat} (h : Stay W w lo) (o : Obj) : Stay W (w.alloc o) lo := h.call (below_alloc w o)
theorem Stay.drew {W w : World} {lo : Nat} (h : Stay W w lo) : Stay W w.drew lo := h.call (Below.refl _ _).drew

/-- An arena of the model's own, not too long. -/
structure SpA (w : World) (lo : Nat) (A1 : Option Addr) (n1 c1 : Nat) (A2 : Option Addr) (n2 c2 : Nat) (A3 : Option Addr) (n3 c3 : Nat) (ns : List NV) (fs : List Int) (rs : List RV) : Prop where
  V : SpV w lo A1 n1 c1 A2 n2 c2 A3 n3 c3 ns fs rs
  m1 : n1 ≤ 1048576
  m2 : n2 ≤ 1048576
  m3 : n3 ≤ 1048576
  t : ∀ q ∈ rs, q.n1 ≤ 10
section
variable {w W : World} {lo n1 c1 n2 c2 n3 c3 : Nat} {A1 A2 A3 : Option Addr} {ns : List NV} {fs : List Int} {rs : List RV}
theorem SpA.of {base : Nat} (h : SpV w base A1 n1 c1 A2 n2 c2 A3 n3 c3 ns fs rs) (m1 : n1 ≤ 1048576) (m2 : n2 ≤ 1048576) (m3 : n3 ≤ 1048576) (ht : ∀ q ∈ rs, q.n1 ≤ 10) (hl : lo ≤ base) : SpA w lo A1 n1 c1 A2 n2 c2 A3 n3 c3 ns fs rs := ⟨h.lower hl, m1, m2, m3, ht⟩
theorem SpA.stay (h : SpA W lo A1 n1 c1 A2 n2 c2 A3 n3 c3 ns fs rs) (hs : Stay W w lo) : SpA w lo A1 n1 c1 A2 n2 c2 A3 n3 c3 ns fs rs :=
  ⟨h.V.others hs.1 fun b hb => hs.2 b (h.V.inB b hb).1 (h.V.inB b hb).2, h.m1, h.m2, h.m3, h.t⟩
theorem SpA.kept (h : SpA W lo A1 n1 c1 A2 n2 c2 A3 n3 c3 ns fs rs) (hb : Below W.heap.size W w) : SpA w lo A1 n1 c1 A2 n2 c2 A3 n3 c3 ns fs rs := h.stay ((Stay.refl _ _).call hb)
theorem SpA.arena (h : SpA w lo A1 n1 c1 A2 n2 c2 A3 n3 c3 ns fs rs) : ArenaL w A1 A2 A3 n1 n2 n3 ns fs rs := h.V.arena h.m1 h.m2 h.m3 h.t
theorem SpA.none (w : World) (lo : Nat) : SpA w lo none 0 0 none 0 0 none 0 0 [] [] [] :=
  ⟨⟨⟨⟨rfl, Or.inl ⟨rfl, rfl⟩⟩, fun q hq => by simp at hq, fun b h => by simp [Value.ownBlock] at h⟩, ⟨rfl, Or.inl ⟨rfl, rfl⟩⟩, RetsOut.nil _ _, fun b h => by simp [Value.ownBlock] at h, fun b h => by simp [Value.ownBlock, rvsB] at h⟩, by decide, by decide, by decide, fun q hq => by simp at hq⟩
theorem AnsAr.stay (h : AnsAr W lo A1 n1 c1 A2 n2 c2 A3 n3 c3 ns fs rs) (hs : Stay W w lo) : AnsAr w lo A1 n1 c1 A2 n2 c2 A3 n3 c3 ns fs rs := h.others hs.2
end

/-- The model's answer. -/
def SpPost (R : ArVal) (w : World) (e : Ending) (w' : World) : Prop :=
  ∃ A1 c1 A2 c2 A3 c3 ns rs, e = .returned (.agg #[.int .i64 R.1, .int .i64 R.2.1, .slice A1 R.2.2.1.length c1, .slice A2 R.2.2.2.1.length c2, .slice A3 R.2.2.2.2.1.length c3, .int .i64 R.2.2.2.2.2]) ∧ SpA w' w.heap.size A1 R.2.2.1.length c1 A2 R.2.2.2.1.length c2 A3 R.2.2.2.2.1.length c3 ns R.2.2.2.1 rs ∧ ns.map NV.val = R.2.2.1 ∧ rs.map RV.val = R.2.2.2.2.1 ∧ Below w.heap.size w w'
theorem SpPost.no {c : Int} {R : ArVal} {w w' : World} (hR : R = arNo c) (hb : Below w.heap.size w w') : SpPost R w (.returned (.agg #[.int .i64 c, .int .i64 0, .slice none 0 0, .slice none 0 0, .slice none 0 0, .int .i64 0])) w' := by
  subst hR
  exact ⟨none, 0, none, 0, none, 0, [], [], rfl, SpA.none _ _, rfl, rfl, hb⟩
theorem SpPost.yes {d id : Int} {V : List NVal} {F : List Int} {U : List RVal} {R : ArVal} {w w' : World} {A1 A2 A3 : Option Addr} {n1 n2 n3 c1 c2 c3 : Nat} {ns : List NV} {rs : List RV} (hR : R = (0, d, V, F, U, id)) (hA : SpA w' w.heap.size A1 n1 c1 A2 n2 c2 A3 n3 c3 ns F rs) (hv : ns.map NV.val = V) (hu : rs.map RV.val = U) (hb : Below w.heap.size w w') :
    SpPost R w (.returned (.agg #[.int .i64 0, .int .i64 d, .slice A1 n1 c1, .slice A2 n2 c2, .slice A3 n3 c3, .int .i64 id])) w' := by
  subst hR
  obtain rfl : V.length = n1 := by rw [← hv, List.length_map]; exact hA.arena.N.1
  obtain rfl : F.length = n2 := hA.arena.F.1
  obtain rfl : U.length = n3 := by rw [← hu, List.length_map]; exact hA.arena.R.1
  exact ⟨A1, c1, A2, c2, A3, c3, ns, rs, rfl, hA, hv, hu, hb⟩

end Go.Proofs.YtpgoildfjkokiaaGreat
