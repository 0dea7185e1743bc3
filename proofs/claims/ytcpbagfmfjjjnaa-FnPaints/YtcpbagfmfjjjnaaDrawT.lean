/-
  A drawn text: some bytes of the length that was asked for.
-/
import Derived.Test.YtcpbagfmfjjjnaaDraw
namespace Go.Proofs.Ytcpbagfmfjjjnaa
open Go.RowKit

end Go.Proofs.Ytcpbagfmfjjjnaa
