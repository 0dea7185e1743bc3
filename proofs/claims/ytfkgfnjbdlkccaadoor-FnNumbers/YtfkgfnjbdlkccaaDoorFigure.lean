/-
  The walk of l01Figure.
-/
import Derived.Test.YtfkgfnjbdlkccaaDoorBase
import Derived.Test.YtfkgfnjbdlkccaaDoorHexes
namespace Go.Proofs.YtfkgfnjbdlkccaaDoor
open Go.RowKit

end Go.Proofs.YtfkgfnjbdlkccaaDoor
