/-
  DropS: texts of one claim, in one.
-/
import Derived.Test.YtdbphpekhmlmdaaGreatDoorFnPlacesM6
import Derived.Test.YtdbphpekhmlmdaaGreatDoorFnPlacesM15
import Derived.Test.YtdbphpekhmlmdaaGreatDoorFnPlacesM17

/-
  The specification's DropNode. (By changed.py.)
-/
namespace Go.Proofs.YtdbphpekhmlmdaaGreatDoor
open Go.RowKit
set_option linter.unusedVariables false

end Go.Proofs.YtdbphpekhmlmdaaGreatDoor
