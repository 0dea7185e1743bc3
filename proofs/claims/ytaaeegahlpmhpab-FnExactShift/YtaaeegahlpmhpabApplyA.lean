/-
  What Apply answers at any argument, on both sides.
-/
import Derived.Test.YtaaeegahlpmhpabApplyS
import Derived.Test.YtaaeegahlpmhpabApplyI
namespace Go.Proofs.Ytaaeegahlpmhpab
open Go.RowKit

/-- What Apply answers. -/
def applyX (a b c d e f x y : Int) : Int := bif (matOkB a b c d e f && pointOkB x y) then moveI a x c y e else 0
def applyY (a b c d e f x y : Int) : Int := bif (matOkB a b c d e f && pointOkB x y) then moveI b x d y f else 0

end Go.Proofs.Ytaaeegahlpmhpab
