/-
  The walk of the program's nearMat.
-/
import Derived.Test.YtaaeegahlpmhpabPlaceS
import Derived.Test.YtaaeegahlpmhpabFixI
import Derived.Test.YtaaeegahlpmhpabAgg
import Derived.Deep.RegionHeld3
namespace Go.Proofs.Ytaaeegahlpmhpab
open Go.RowKit

theorem cell_drew (w : World) (p : Addr) : w.drew.cell? p = w.cell? p := rfl

end Go.Proofs.Ytaaeegahlpmhpab
