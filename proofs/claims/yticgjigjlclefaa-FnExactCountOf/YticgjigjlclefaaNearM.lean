/-
  The walk of the program's nearMat.
-/
import Derived.Test.YticgjigjlclefaaPlaceS
import Derived.Test.YticgjigjlclefaaFixI
import Derived.Test.YticgjigjlclefaaAgg
import Derived.Deep.RegionHeld3
namespace Go.Proofs.Yticgjigjlclefaa
open Go.RowKit

theorem cell_drew (w : World) (p : Addr) : w.drew.cell? p = w.cell? p := rfl

end Go.Proofs.Yticgjigjlclefaa
