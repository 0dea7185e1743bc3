/-
  The walk of the program's nearMat.
-/
import Derived.Test.YtfbgofhlbbjepaaDoorPlaceS
import Derived.Test.YtfbgofhlbbjepaaDoorFixI
import Derived.Test.YtfbgofhlbbjepaaDoorAgg
import Derived.Deep.RegionHeld3
namespace Go.Proofs.YtfbgofhlbbjepaaDoor
open Go.RowKit

theorem cell_drew (w : World) (p : Addr) : w.drew.cell? p = w.cell? p := rfl

end Go.Proofs.YtfbgofhlbbjepaaDoor
