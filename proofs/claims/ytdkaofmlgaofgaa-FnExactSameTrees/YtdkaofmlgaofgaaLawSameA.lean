/- Arenas of the same values are the same or not alike. No condition. -/
import Derived.Test.YtdkaofmlgaofgaaSameArenas
namespace Go.Proofs.Ytdkaofmlgaofgaa
open Go.RowKit
theorem sameA_congr {d d' : Int} {ns ns' ms ms' : List NV} {fs fs' : List Int} {rs rs' qs qs' : List RV} (h1 : ns.map NV.val = ms.map NV.val) (h2 : ns'.map NV.val = ms'.map NV.val) (h3 : rs.map RV.val = qs.map RV.val) (h4 : rs'.map RV.val = qs'.map RV.val) :
    sameA d d' ns ns' fs fs' rs rs' = sameA d d' ms ms' fs fs' qs qs' := by unfold sameA; rw [sameL_congr h1 h2, sameL_congr h3 h4]
end Go.Proofs.Ytdkaofmlgaofgaa
