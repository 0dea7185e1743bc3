/-
  The walk of the program's nearMat.
-/
import Derived.Test.YtkhacppaemilgaaPlaceS
import Derived.Test.YtkhacppaemilgaaFixI
import Derived.Test.YtkhacppaemilgaaAgg
import Derived.Deep.RegionHeld3
namespace Go.Proofs.Ytkhacppaemilgaa
open Go.RowKit

theorem cell_drew (w : World) (p : Addr) : w.drew.cell? p = w.cell? p := rfl

end Go.Proofs.Ytkhacppaemilgaa
