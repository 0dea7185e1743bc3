/-
  The exact law of SurfaceNew, from what the program's function answers. (By newlaw.py.)
-/
import Derived.Test.YtngnleoggblinaaSurfV
import Derived.Test.YtngnleoggblinaaSurfS
import Derived.Deep.RegionHeld3
import Derived.Deep.DeepCutAuto
import Derived.Deep.DeepFit
namespace Go.Proofs.Ytngnleoggblinaa
open Go.RowKit
set_option linter.unusedVariables false

theorem newN_le (x y : Int) : newN x y ≤ 1048576 := by
  unfold newN
  split
  · rename_i h
    have h' := newOk_iff.1 h
    have := side_prod h'.1 h'.2
    omega
  · omega

end Go.Proofs.Ytngnleoggblinaa
