/-
  The walk of JoinBox (spec).
-/
import Derived.Test.YtngnleoggblinaaBoxS
import Derived.Deep.RegionHeld3
namespace Go.Proofs.Ytngnleoggblinaa
open Go.RowKit

def join0 (a b c d e f g h : Int) : Int := bif emptyB a b c d then (bif emptyB e f g h then 0 else e) else (bif emptyB e f g h then a else leastI a e)
def join1 (a b c d e f g h : Int) : Int := bif emptyB a b c d then (bif emptyB e f g h then 0 else f) else (bif emptyB e f g h then b else leastI b f)
def join2 (a b c d e f g h : Int) : Int := bif emptyB a b c d then (bif emptyB e f g h then 0 else g) else (bif emptyB e f g h then c else mostI c g)
def join3 (a b c d e f g h : Int) : Int := bif emptyB a b c d then (bif emptyB e f g h then 0 else h) else (bif emptyB e f g h then d else mostI d h)

end Go.Proofs.Ytngnleoggblinaa
