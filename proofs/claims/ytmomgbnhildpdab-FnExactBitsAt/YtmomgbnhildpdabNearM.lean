/-
  The walk of the program's nearMat.
-/
import Derived.Test.YtmomgbnhildpdabPlaceS
import Derived.Test.YtmomgbnhildpdabFixI
import Derived.Test.YtmomgbnhildpdabAgg
import Derived.Deep.RegionHeld3
namespace Go.Proofs.Ytmomgbnhildpdab
open Go.RowKit

theorem cell_drew (w : World) (p : Addr) : w.drew.cell? p = w.cell? p := rfl

end Go.Proofs.Ytmomgbnhildpdab
