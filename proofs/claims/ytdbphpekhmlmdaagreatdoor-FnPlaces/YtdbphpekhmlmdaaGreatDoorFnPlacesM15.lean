/-
  ChangeS: texts of one claim, in one.
-/
import Derived.Test.YtdbphpekhmlmdaaGreatDoorFnPlacesM6
import Derived.Test.YtdbphpekhmlmdaaGreatDoorFnPlacesM12
import Derived.Test.YtdbphpekhmlmdaaGreatDoorFnPlacesM14

/-
  The specification's CreateNode. (By changes.py.)
-/
namespace Go.Proofs.YtdbphpekhmlmdaaGreatDoor
open Go.RowKit
set_option linter.unusedVariables false

theorem sgHigh {w : World} {base T T' n c : Nat} {a : Option Addr} {X : Nat → Nd} {A : Nat → Na} (h : SG w base T a n c X A) (hT : T ≤ T') : SG w base T' a n c X A := h.high hT

end Go.Proofs.YtdbphpekhmlmdaaGreatDoor
