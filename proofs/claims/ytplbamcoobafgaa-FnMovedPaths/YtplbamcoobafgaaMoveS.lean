/-
  The specification's MovePath.
-/
import Derived.Test.YtplbamcoobafgaaMoveK
import Derived.Test.YtplbamcoobafgaaApplyA
import Derived.Deep.RegionLaw
namespace Go.Proofs.Ytplbamcoobafgaa
open Go.RowKit

def mvP (A B C D E F : Int) (p : Int × Int) : Int × Int := (applyX A B C D E F p.1 p.2, applyY A B C D E F p.1 p.2)
def okN (ok : Bool) (n : Nat) : Nat := bif ok then n else 0

end Go.Proofs.Ytplbamcoobafgaa
