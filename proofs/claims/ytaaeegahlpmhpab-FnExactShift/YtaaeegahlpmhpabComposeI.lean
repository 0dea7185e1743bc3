/-
  The walk of the program's Compose.
-/
import Derived.Test.YtaaeegahlpmhpabComposeS
import Derived.Test.YtaaeegahlpmhpabApplyI
namespace Go.Proofs.Ytaaeegahlpmhpab
open Go.RowKit

end Go.Proofs.Ytaaeegahlpmhpab
