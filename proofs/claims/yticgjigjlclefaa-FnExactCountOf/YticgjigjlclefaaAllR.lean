/-
  The program's allRight: every point of a list is right.
-/
import Derived.Test.YticgjigjlclefaaPathS
import Derived.Test.YticgjigjlclefaaPlaceI
namespace Go.Proofs.Yticgjigjlclefaa
open Go.RowKit

end Go.Proofs.Yticgjigjlclefaa
