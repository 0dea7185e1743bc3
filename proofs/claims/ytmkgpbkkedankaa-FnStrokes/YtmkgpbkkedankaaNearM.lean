/-
  The walk of the program's nearMat.
-/
import Derived.Test.YtmkgpbkkedankaaPlaceS
import Derived.Test.YtmkgpbkkedankaaFixI
import Derived.Test.YtmkgpbkkedankaaAgg
import Derived.Deep.RegionHeld3
namespace Go.Proofs.Ytmkgpbkkedankaa
open Go.RowKit

theorem cell_drew (w : World) (p : Addr) : w.drew.cell? p = w.cell? p := rfl

end Go.Proofs.Ytmkgpbkkedankaa
