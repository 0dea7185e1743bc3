/-
  DropS: texts of one claim, in one.
-/
import Derived.Test.YtdbphpekhmlmdaaGreatDoorFnExactPlaceNodeM10
import Derived.Test.YtdbphpekhmlmdaaGreatDoorFnExactPlaceNodeM12
import Derived.Test.YtdbphpekhmlmdaaGreatDoorFnExactPlaceNodeM14

/-
  The specification's DropNode. (By changed.py.)
-/
namespace Go.Proofs.YtdbphpekhmlmdaaGreatDoor
open Go.RowKit
set_option linter.unusedVariables false

end Go.Proofs.YtdbphpekhmlmdaaGreatDoor
