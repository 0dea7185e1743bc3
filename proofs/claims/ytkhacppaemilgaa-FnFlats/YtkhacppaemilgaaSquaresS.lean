/-
  The walk of Squares (spec).
-/
import Derived.Test.YtkhacppaemilgaaGrowS
import Derived.Deep.RegionHeld3
import Derived.Deep.DeepCutAuto
import Derived.Deep.DeepFit
namespace Go.Proofs.Ytkhacppaemilgaa
open Go.RowKit

def sqrs0 (a b c d : Int) : Int := bif emptyB a b c d then 0 else fdivI (k5 a) 256
def sqrs1 (a b c d : Int) : Int := bif emptyB a b c d then 0 else fdivI (k5 b) 256
def sqrs2 (a b c d : Int) : Int := bif emptyB a b c d then 0 else -fdivI (-k5 c) 256
def sqrs3 (a b c d : Int) : Int := bif emptyB a b c d then 0 else -fdivI (-k5 d) 256
theorem f5_bd {x : Int} (h1 : -33554432 ≤ x) (h2 : x ≤ 33554432) : -33554432 ≤ fdivI x 256 ∧ fdivI x 256 ≤ 33554432 := by unfold fdivI; rw [if_neg (by decide)]; omega

end Go.Proofs.Ytkhacppaemilgaa
