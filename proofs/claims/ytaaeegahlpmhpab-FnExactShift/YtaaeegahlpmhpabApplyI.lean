/-
  The walk of the program's Apply.
-/
import Derived.Test.YtaaeegahlpmhpabApplyS
import Derived.Test.YtaaeegahlpmhpabPlaceI
import Derived.Test.YtaaeegahlpmhpabTurnI
import Derived.Test.YtaaeegahlpmhpabAgg
namespace Go.Proofs.Ytaaeegahlpmhpab
open Go.RowKit

end Go.Proofs.Ytaaeegahlpmhpab
