/-
  The program's allRight: every point of a list is right.
-/
import Derived.Test.YtjnnaaafehndpaaPathS
import Derived.Test.YtjnnaaafehndpaaPlaceI
namespace Go.Proofs.Ytjnnaaafehndpaa
open Go.RowKit

end Go.Proofs.Ytjnnaaafehndpaa
