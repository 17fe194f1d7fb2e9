/- FnExactTakeNode: for every arena and node impl.TakeNode answers as the model does, leaves its arguments alone and answers in memory of its own. No condition. -/
import Derived.Test.YtpgoildfjkokiaaGreatImplTake
import Derived.Test.YtpgoildfjkokiaaGreatSpecTake
import Derived.Test.YtpgoildfjkokiaaGreatNodeArg
import Derived.Test.YtpgoildfjkokiaaGreatAnswers
import Derived.Test.YtpgoildfjkokiaaGreatMarkRes
namespace Go.Proofs.YtpgoildfjkokiaaGreat
open Go.RowKit


theorem implTakeNode_is (d lv nn rt : Int) (n1 c1 n2 c2 n3 c3 n c : Nat) (A1 A2 A3 A : Option Addr) (ns : List NV) (fs : List Int) (rs : List RV) (es : List EV) (w : World) {cd D idr : Int} {V : List NVal} {F : List Int} {U : List RVal} (hR : takeR d (ns.map NV.val) fs (rs.map RV.val) (lv, nn, rt, es.map EV.val) = (cd, D, V, F, U, idr)) (hp : ArenaL w A1 A2 A3 n1 n2 n3 ns fs rs) (hn3 : n3 ≤ 1048576) (he : Entries w A n es) (hn : n ≤ maxLen) :
    Calls Tryz.prog 36 #[.agg #[.int .i64 d, .slice A1 n1 c1, .slice A2 n2 c2, .slice A3 n3 c3], .agg #[.int .i64 lv, .int .i64 nn, .int .i64 rt, .slice A n c]] w fun e w' => ∃ A1' c1' A2' c2' A3' c3' qs ts, e = .returned (.agg #[.int .i64 cd, .int .i64 D, .slice A1' V.length c1', .slice A2' F.length c2', .slice A3' U.length c3', .int .i64 idr]) ∧ AnsAr w' w.heap.size A1' V.length c1' A2' F.length c2' A3' U.length c3' qs F ts ∧ qs.map NV.val = V ∧ ts.map RV.val = U ∧ Below w.heap.size w w' := by
  have h0 := implTakeNode_any d lv nn rt n1 c1 n2 c2 n3 c3 n c A1 A2 A3 A ns fs rs es w hp hn3 he hn
  rw [hR] at h0
  exact h0


end Go.Proofs.YtpgoildfjkokiaaGreat
