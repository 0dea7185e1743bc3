/-
  The walk of the program's nearMat.
-/
import Derived.Test.YtcpbagfmfjjjnaaPlaceS
import Derived.Test.YtcpbagfmfjjjnaaFixI
import Derived.Test.YtcpbagfmfjjjnaaAgg
import Derived.Deep.RegionHeld3
namespace Go.Proofs.Ytcpbagfmfjjjnaa
open Go.RowKit

theorem cell_drew (w : World) (p : Addr) : w.drew.cell? p = w.cell? p := rfl

end Go.Proofs.Ytcpbagfmfjjjnaa
