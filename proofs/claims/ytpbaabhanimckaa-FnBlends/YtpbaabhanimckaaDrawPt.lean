/-
  The walk of drawn points.
-/
import Derived.Test.YtpbaabhanimckaaDrawM
namespace Go.Proofs.Ytpbaabhanimckaa
open Go.RowKit

end Go.Proofs.Ytpbaabhanimckaa
