/-
  The walk of the program's nearMat.
-/
import Derived.Test.YtjnnaaafehndpaaPlaceS
import Derived.Test.YtjnnaaafehndpaaFixI
import Derived.Test.YtjnnaaafehndpaaAgg
import Derived.Deep.RegionHeld3
namespace Go.Proofs.Ytjnnaaafehndpaa
open Go.RowKit

theorem cell_drew (w : World) (p : Addr) : w.drew.cell? p = w.cell? p := rfl

end Go.Proofs.Ytjnnaaafehndpaa
