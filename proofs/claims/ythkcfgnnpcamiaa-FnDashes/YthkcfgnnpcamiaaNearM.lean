/-
  The walk of the program's nearMat.
-/
import Derived.Test.YthkcfgnnpcamiaaPlaceS
import Derived.Test.YthkcfgnnpcamiaaFixI
import Derived.Test.YthkcfgnnpcamiaaAgg
import Derived.Deep.RegionHeld3
namespace Go.Proofs.Ythkcfgnnpcamiaa
open Go.RowKit

theorem cell_drew (w : World) (p : Addr) : w.drew.cell? p = w.cell? p := rfl

end Go.Proofs.Ythkcfgnnpcamiaa
