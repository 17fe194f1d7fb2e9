/- The walks of impl.nodeBody's count and around, and of impl.BoxOf. -/
import Derived.Test.YtmoogdlbfadnaaaReadNode
import Derived.Test.YtmoogdlbfadnaaaBoxMath
namespace Go.Proofs.Ytmoogdlbfadnaaa
open Go.RowKit

theorem pad_maxs2 {xs us : List Int} {p0 p1 p2 r0 r1 r2 : Int} (hl : xs.length = us.length) (hp : Pad xs p0 p1 p2) (hq : Pad us r0 r1 r2) : Pad (maxs xs us) (max p0 r0) (max p1 r1) (max p2 r2) := by
  rcases hp with ⟨rfl, rfl⟩ | rfl <;> rcases hq with ⟨rfl, rfl⟩ | rfl <;> simp at hl <;> simp [Pad, maxs]


/-- Where the loop stands. -/
structure Around (w wr : World) (bd : Array Value) (t0 t1 t2 t3 t4 t5 : Int) : Prop where
  b : Below w.heap.size w wr
  r : Lies wr (w.heap.size + 1) 113 #[.int .i64 0, .int .i64 0, .int .i64 0, .int .i64 0, .int .i64 0, .int .i64 0]
  a : Lies wr (w.heap.size + 1 + 1) 113 #[.int .i64 t0, .int .i64 t1, .int .i64 t2, .int .i64 t3, .int .i64 t4, .int .i64 t5]



end Go.Proofs.Ytmoogdlbfadnaaa
