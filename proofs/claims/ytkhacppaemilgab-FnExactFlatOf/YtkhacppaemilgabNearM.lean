/-
  The walk of the program's nearMat.
-/
import Derived.Test.YtkhacppaemilgabPlaceS
import Derived.Test.YtkhacppaemilgabFixI
import Derived.Test.YtkhacppaemilgabAgg
import Derived.Deep.RegionHeld3
namespace Go.Proofs.Ytkhacppaemilgab
open Go.RowKit

theorem cell_drew (w : World) (p : Addr) : w.drew.cell? p = w.cell? p := rfl

end Go.Proofs.Ytkhacppaemilgab
