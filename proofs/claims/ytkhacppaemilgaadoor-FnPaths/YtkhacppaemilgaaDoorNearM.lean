/-
  The walk of the program's nearMat.
-/
import Derived.Test.YtkhacppaemilgaaDoorPlaceS
import Derived.Test.YtkhacppaemilgaaDoorFixI
import Derived.Test.YtkhacppaemilgaaDoorAgg
import Derived.Deep.RegionHeld3
namespace Go.Proofs.YtkhacppaemilgaaDoor
open Go.RowKit

theorem cell_drew (w : World) (p : Addr) : w.drew.cell? p = w.cell? p := rfl

end Go.Proofs.YtkhacppaemilgaaDoor
