/-
  The walk of l01Figure.
-/
import Derived.Test.YtcpbagfmfjjjnaaBase
import Derived.Test.YtcpbagfmfjjjnaaHexes
namespace Go.Proofs.Ytcpbagfmfjjjnaa
open Go.RowKit

end Go.Proofs.Ytcpbagfmfjjjnaa
