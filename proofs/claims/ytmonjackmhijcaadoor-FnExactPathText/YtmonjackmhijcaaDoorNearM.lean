/-
  The walk of the program's nearMat.
-/
import Derived.Test.YtmonjackmhijcaaDoorPlaceS
import Derived.Test.YtmonjackmhijcaaDoorFixI
import Derived.Test.YtmonjackmhijcaaDoorAgg
import Derived.Deep.RegionHeld3
namespace Go.Proofs.YtmonjackmhijcaaDoor
open Go.RowKit

theorem cell_drew (w : World) (p : Addr) : w.drew.cell? p = w.cell? p := rfl

end Go.Proofs.YtmonjackmhijcaaDoor
