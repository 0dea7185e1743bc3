/-
  The program's allRight: every point of a list is right.
-/
import Derived.Test.YtmomgbnhildpdabPathS
import Derived.Test.YtmomgbnhildpdabPlaceI
namespace Go.Proofs.Ytmomgbnhildpdab
open Go.RowKit

end Go.Proofs.Ytmomgbnhildpdab
